/- The built-in append. -/
import Derived.Test.YtjfiojmfcpeaoaaEE6
namespace Go.Eng
set_option linter.unusedVariables false

def isIntD : TypeDesc → Bool
  | .int _ => true
  | _ => false

/-- append(s, x...): 'lit': what comes of it is not written by index. -/
def isSref : CV → Bool
  | .sref _ _ _ _ _ _ => true
  | _ => false

def appendC (lit : Bool) (ty : Ty) (h : Heap) (t u : TypeId) (s x : CV) : Option (CV × Heap) :=
  match ty t, ty u with
  | some i, some iu =>
    match i.desc with
    | .slice e =>
      match ty e with
      | some j =>
        if isIntD iu.desc ∨ 2 ^ 30 < j.bytes then none else
        match srcE h j x, srcE h j s with
        | some ys, some xs =>
          if ys = [] ∧ (lit && isSref s) = false then (match s with
            | .slice esz _ tok full =>
              if lit then (if full then some (.slice j.size (xs ++ ys) (some h.length) false, h ++ [.tail (xs.length + ys.length)])
                else match tok with
                | some k => match h[k]? with
                  | some (.tail v) => if v = xs.length ∧ esz = j.size then some (.slice j.size (xs ++ ys) (some k) false, h.set k (.tail (xs.length + ys.length))) else none
                  | _ => none
                | none => none)
              else some (s, h)
            | .sref _ _ _ _ _ _ => some (s, h)
            | _ => none)
          else if 2 ^ 44 < (xs.length + ys.length) * (j.bytes + 1) ∨ !(((xs ++ ys).flatMap CV.flat).all CV.one) then none else
          match s with
          | .slice esz _ tok full =>
            if full then
              (if lit then some (.slice j.size (xs ++ ys) (some h.length) false, h ++ [.tail (xs.length + ys.length)])
               else some (.sref j.size h.length 0 (xs.length + ys.length) (xs.length + ys.length) false, h ++ [.cells ((xs ++ ys).flatMap CV.flat)]))
            else match tok with
              | some k => match h[k]? with
                | some (.tail v) => if v = xs.length ∧ esz = j.size then some (.slice j.size (xs ++ ys) (some k) false, h.set k (.tail (xs.length + ys.length))) else none
                | _ => none
              | none => none
          | .sref _ b _ _ _ _ =>
            if lit then some (.slice j.size (xs ++ ys) (some h.length) false, h.set b .dead ++ [.tail (xs.length + ys.length)])
            else some (.sref j.size h.length 0 (xs.length + ys.length) (xs.length + ys.length) false, h.set b .dead ++ [.cells ((xs ++ ys).flatMap CV.flat)])
          | _ => none
        | _, _ => none
      | none => none
    | _ => none
  | _, _ => none

section
variable {P : Program} {N : Nat} {φ : Phi} {St : Stab} {h : Heap} {w : World}

/-- A new place for cells of a block that nobody owns. -/
theorem Rel.adopt (R : Rel N φ St h w) {r base size : Nat} {arr : Array Value} {elem : TypeId × Nat × Nat} (hN : N ≤ r) (hw : w.heap[r]? = some (.cells arr elem.1 elem.2)) (hsz : arr.size = size ∧ Unfz elem.2 size)
    (hno : ∀ b e, φ b = some e → e.blk ≠ some r) (hst : ∀ j, ¬ St r j) {cs : List CV} {vs : List Value} (hv : VRL φ St w cs vs) (hin : base + cs.length ≤ size)
    (hvs : ∀ (j : Nat) (v : Value), vs[j]? = some v → arr[base + j]? = some v) :
    Rel N (φ.put h.length (.own r base size)) St (h ++ [.cells cs]) w ∧ Mono φ St w (φ.put h.length (.own r base size)) St w := by
  have hn := R.noEnt
  have m : Mono φ St w (φ.put h.length (.own r base size)) St w := by
    refine ⟨fun b => ?_, fun _ _ hs => hs, fun _ _ _ => rfl⟩
    by_cases hb : b = h.length
    · subst hb; rw [hn]; exact .fresh _
    · rw [put_other _ _ _ _ hb]; exact .refl _
  refine ⟨R.change h.length (.own r base size) (.cells cs) St (h ++ [.cells cs]) w m (Nat.le_refl _) (by simp) (by simp)
    (fun b e hne hb => by rw [List.getElem?_append_left (R.dom b e hb)]) (fun _ _ _ _ _ _ => rfl) R.stLt (fun _ _ hs => .inl hs)
    (fun r' he b e _ hb hk => by simp [Ent.blk] at he; subst he; exact hno b e hb hk) ?_, m⟩
  refine ⟨hN, cs, arr, elem, rfl, hw, hsz, hin, fun j c hc => ?_, hst⟩
  obtain ⟨v, h1, h2⟩ := hv.get j c hc
  exact ⟨v, hvs j v h1, h2.mono m⟩

/-- What comes of an append that made a new block, to be written by index. -/
theorem new_own (R : Rel N φ St h w) {size n nc : Nat} {cs : List CV} {vs : List Value} (hv : VRL φ St w cs vs) (hl : vs.length = n * size) (hn : n ≤ nc) {rest : Array Value} {e : TypeId}
    (hr : rest.size = (nc - n) * size) : ∃ φ', Rel N φ' St (h ++ [.cells cs]) (w.drew.alloc (.cells (vs.toArray ++ rest) e)) ∧
      VR φ' St (w.drew.alloc (.cells (vs.toArray ++ rest) e)) (.sref size h.length 0 n n false) (.slice (some ⟨w.heap.size, 0, none⟩) n nc) ∧
      Frm h.length φ St w φ' St (w.drew.alloc (.cells (vs.toArray ++ rest) e)) := by
  obtain ⟨Rd, md⟩ := R.drew
  have hvl := hv.length
  obtain ⟨R', F⟩ := alloc_own (elem := e) Rd (cs := cs) (arr := vs.toArray ++ rest) (by
    have : (vs.toArray ++ rest).toList.take cs.length = vs := by simp [hvl]
    rw [this]; exact hv.mono md) (by simp; omega)
  refine ⟨_, R', ?_, (Frm.drew _ φ St w).trans F (Nat.le_refl _)⟩
  refine .sref _ _ 0 n n false w.heap.size 0 _ nc (push_at _ _ _) hn (Nat.le_refl _) (by simp) ?_
  have : n * size + (nc - n) * size = nc * size := by rw [← Nat.add_mul]; congr 1; omega
  simp; omega

/-- ..., not to be written by index: with a new token, or in the place of an old one. -/
theorem new_tail (R : Rel N φ St h w) {size n nc : Nat} {xs : List CV} {vs : List Value} (hv : VRL φ St w (xs.flatMap CV.flat) vs) (hx : ∀ x ∈ xs, x.flat.length = size) (hn : xs.length = n) (hnc : n ≤ nc)
    {rest : Array Value} {e : TypeId} (hr : rest.size = (nc - n) * size) (k : Nat) (h' : Heap)
    (hk : (k = h.length ∧ h' = h ++ [.tail n]) ∨ (((∃ u0, φ k = some (.void u0) ∧ u0 < n) ∨ ∃ r used u sz, φ k = some (.tail r used u sz) ∧ u < n) ∧ h' = h.set k (.tail n))) :
    ∃ φ' St', Rel N φ' St' h' (w.drew.alloc (.cells (vs.toArray ++ rest) e)) ∧
      VR φ' St' (w.drew.alloc (.cells (vs.toArray ++ rest) e)) (.slice size xs (some k) false) (.slice (some ⟨w.heap.size, 0, none⟩) n nc) ∧
      Frm h.length φ St w φ' St' (w.drew.alloc (.cells (vs.toArray ++ rest) e)) := by
  subst hn
  obtain ⟨Rd, md⟩ := R.drew
  have hvl := hv.length
  rw [flat_length _ hx] at hvl
  let w' := w.drew.alloc (.cells (vs.toArray ++ rest) e)
  let St' : Stab := fun r j => St r j ∨ (r = w.heap.size ∧ j < xs.length * size)
  let ent : Ent := .tail w.heap.size (xs.length * size) xs.length (vs.toArray ++ rest).size
  have hkb : k < h'.length ∧ h'[k]? = some (.tail xs.length) ∧ h.length ≤ h'.length ∧ ∀ b' e', b' ≠ k → φ b' = some e' → h'[b']? = h[b']? := by
    rcases hk with ⟨rfl, rfl⟩ | ⟨hk', rfl⟩
    · exact ⟨by simp, by simp, by simp, fun b' e' hne hb => by rw [List.getElem?_append_left (R.dom b' e' hb)]⟩
    · have : k < h.length := by
        rcases hk' with ⟨_, hφ, _⟩ | ⟨r, used, u, sz, hφ, _⟩ <;> exact R.dom k _ hφ
      exact ⟨by simpa using this, by rw [List.getElem?_set_self this], by simp, fun b' e' hne hb => by rw [List.getElem?_set_ne (Ne.symm hne)]⟩
  have m : Mono φ St w (φ.put k ent) St' w' := by
    refine ⟨fun b => ?_, fun _ _ hs => .inl hs, fun r j hs => ?_⟩
    · by_cases hb : b = k
      · subst hb
        rw [put_same]
        rcases hk with ⟨rfl, _⟩ | ⟨⟨_, hφ, hu⟩ | ⟨r, used, u, sz, hφ, hu⟩, _⟩
        · rw [R.noEnt]; exact .fresh _
        · rw [hφ]; exact .fill _ _ _ _ _ hu
        · rw [hφ]; exact .grow _ _ _ _ _ _ _ _ hu
      · rw [put_other _ _ _ _ hb]; exact .refl _
    · show w'.cell? _ = _
      rw [World.cell?_alloc_lt w.drew _ ⟨r, j, none⟩ (R.stLt r j hs)]; rfl
  have hblk : ∀ b e' r, φ b = some e' → e'.blk = some r → r < w.heap.size := fun b e' r hb he => (R.lt hb he).2
  have R' : Rel N (φ.put k ent) St' h' w' := by
    refine R.change k ent (.tail xs.length) St' h' w' m (by simp [w']) hkb.2.1 hkb.2.2.1 hkb.2.2.2 ?_ ?_ ?_ ?_ ?_
    · intro b' e' r hne hb he
      exact heap_old w.drew _ r (hblk b' e' r hb he)
    · intro r j hs
      rcases hs with hs | ⟨rfl, _⟩
      · have := R.stLt r j hs; simp [w']; omega
      · simp [w']
    · intro r j hs
      rcases hs with hs | ⟨rfl, _⟩
      · exact .inl hs
      · exact .inr fun b' e' _ hb he => by have := hblk b' e' _ hb he; omega
    · intro r he b' e' _ hb hk'
      simp [ent, Ent.blk] at he; subst he
      have := hblk b' e' _ hb hk'; omega
    · refine ⟨R.start, rfl, by simp; omega, ⟨vs.toArray ++ rest, (e, (0, 0)), heap_new w.drew _, rfl, Unfz.zero _⟩, fun j hs => ?_⟩
      rcases hs with hs | ⟨_, hj⟩
      · have := R.stLt _ j hs; omega
      · exact hj
  refine ⟨φ.put k ent, St', R', ?_, { toMono := m, size := by simp, stNew := ?_, blkNew := ?_, keepBlk := fun r hr _ => heap_old w.drew _ r hr, idNew := ?_, os := rfl, output := rfl, tape := rfl }⟩
  · have := VR.slice (φ := φ.put k ent) (St := St') (w := w') size xs (some k) false (some ⟨w.heap.size, 0, none⟩) nc vs (.inr ⟨_, rfl, rfl, fun j v hv' => ?_⟩) (hv.mono m) hx (by omega) (by simp) ?_
    · exact this
    · have hj : j < xs.length * size := by have := (List.getElem?_eq_some_iff.1 hv').1; omega
      simp only [Nat.zero_add]
      refine ⟨.inr ⟨rfl, hj⟩, ?_⟩
      show w'.cell? ⟨w.heap.size, j, none⟩ = some v
      rw [cell_of_row w' w.heap.size j (vs.toArray ++ rest) e (0, 0) (heap_new w.drew _), Array.getElem?_append_left (by simp; omega)]
      simpa using hv'
    · refine ⟨by rw [put_same]; simp, by rw [put_same]; simp [ent], fun r used u size' he => ?_⟩
      rw [put_same] at he
      simp [ent] at he
      obtain ⟨rfl, rfl, rfl, rfl⟩ := he
      refine ⟨by omega, fun _ => ⟨_, rfl, rfl, rfl, by simp, ?_⟩⟩
      have : xs.length * size + (nc - xs.length) * size = nc * size := by rw [← Nat.add_mul]; congr 1; omega
      simp; omega
  · intro r j hs
    rcases hs with hs | ⟨rfl, _⟩
    · exact .inl hs
    · exact .inr (.inl (Nat.le_refl _))
  · intro b e' r hb he
    by_cases hbb : b = k
    · subst hbb; rw [put_same] at hb; simp [ent] at hb; subst hb; simp [Ent.blk] at he; exact .inr (by omega)
    · rw [put_other _ _ _ _ hbb] at hb; exact .inl ⟨b, e', hb, he⟩
  · intro b hb hn'
    by_cases hbb : b = k
    · subst hbb
      rcases hk with ⟨rfl, _⟩ | ⟨⟨_, hφ, hu⟩ | ⟨r, used, u, sz, hφ, hu⟩, _⟩
      · omega
      · rw [hφ] at hn'; simp at hn'
      · rw [hφ] at hn'; simp at hn'
    · rw [put_other _ _ _ _ hbb]; exact hn'

/-- Cells stored behind the others of a block whose end nobody reads: under the token that it has, or under a new one. -/
theorem tail_in (R : Rel N φ St h w) {k r lo p size n : Nat} {arr : Array Value} {elem : TypeId × Nat × Nat} (hN : N ≤ r) (hw : w.heap[r]? = some (.cells arr elem.1 elem.2)) (hsz' : arr.size = size ∧ Unfz elem.2 size)
    {vs : List Value} (hone : ∀ v ∈ vs, v.oneCell' = true) (hin : p + vs.length ≤ size) (hlo : lo ≤ p) (h' : Heap)
    (hno : ∀ b e, b ≠ k → φ b = some e → e.blk ≠ some r) (hst : ∀ j, St r j → j < p)
    (hk : (k = h.length ∧ h' = h ++ [.tail n] ∧ φ k = none) ∨ (∃ u, φ k = some (.tail r p u size) ∧ u < n ∧ h' = h.set k (.tail n))) :
    ∃ w' φ' St', (storeCells ⟨r, p, none⟩ vs).run P w = .ok () w' ∧ Rel N φ' St' h' w' ∧ Mono φ St w φ' St' w' ∧ φ' k = some (.tail r (p + vs.length) n size) ∧
      (∀ b, b ≠ k → φ' b = φ b) ∧ (∀ j, lo ≤ j → j < p + vs.length → St' r j) ∧ (∀ r' j, St' r' j → St r' j ∨ r' = r) ∧
      (∀ j, w'.cell? ⟨r, j, none⟩ = (splice arr.toList p vs)[j]?) ∧ (∀ r', r' ≠ r → w'.heap[r']? = w.heap[r']?) ∧ w'.heap.size = w.heap.size ∧ w'.os = w.os ∧ w'.output = w.output ∧ w'.tape = w.tape := by
  obtain ⟨hsz, hz⟩ := hsz'
  have hrun := run_storeCells_fz P r p elem.1 elem.2 vs 0 arr w hw (by omega) hone (by rw [hsz]; exact hz)
  simp only [Nat.add_zero] at hrun
  let arr' : Array Value := (splice arr.toList p vs).toArray
  have harr' : (arr.toList.take p ++ vs ++ arr.toList.drop (p + vs.length)).toArray = arr' := rfl
  rw [harr'] at hrun
  let w' := w.setRow r arr'
  let St' : Stab := fun r' j => St r' j ∨ (r' = r ∧ lo ≤ j ∧ j < p + vs.length)
  let ent : Ent := .tail r (p + vs.length) n size
  have hl' : arr'.size = size := by
    show (splice arr.toList p vs).toArray.size = size
    rw [List.size_toArray, length_splice _ _ _ (by simp; omega)]; simpa using hsz
  have hother : ∀ r', r' ≠ r → w'.heap[r']? = w.heap[r']? := fun r' hr => setRow_other w r r' _ hr
  have hcell : ∀ j, w'.cell? ⟨r, j, none⟩ = (splice arr.toList p vs)[j]? := by
    intro j
    rw [cell_of_row w' r j arr' elem.1 elem.2 (setRow_heap w r arr arr' elem.1 elem.2 hw)]
    show (splice arr.toList p vs).toArray[j]? = _
    simp
  have hrl : r < w.heap.size := (Array.getElem?_eq_some_iff.1 hw).1
  have m : Mono φ St w (φ.put k ent) St' w' := by
    refine ⟨fun b => ?_, fun _ _ hs => .inl hs, fun r' j hs => ?_⟩
    · by_cases hb : b = k
      · subst hb
        rw [put_same]
        rcases hk with ⟨rfl, _, hn⟩ | ⟨u, hφ, hu, _⟩
        · rw [hn]; exact .fresh _
        · rw [hφ]; exact .grow _ _ _ _ _ _ _ _ hu
      · rw [put_other _ _ _ _ hb]; exact .refl _
    · by_cases hr : r' = r
      · subst hr
        have := hst j hs
        rw [hcell, get_splice _ _ _ (by simp; omega), if_pos this, cell_of_row w r' j arr elem.1 elem.2 hw]; simp
      · exact cell_setRow_other w r _ ⟨r', j, none⟩ hr
  have hkb : h'[k]? = some (.tail n) ∧ h.length ≤ h'.length ∧ ∀ b' e', b' ≠ k → φ b' = some e' → h'[b']? = h[b']? := by
    rcases hk with ⟨rfl, rfl, _⟩ | ⟨u, hφ, _, rfl⟩
    · exact ⟨by simp, by simp, fun b' e' hne hb => by rw [List.getElem?_append_left (R.dom b' e' hb)]⟩
    · have := R.dom k _ hφ
      exact ⟨by rw [List.getElem?_set_self this], by simp, fun b' e' hne hb => by rw [List.getElem?_set_ne (Ne.symm hne)]⟩
  have hsize : w'.heap.size = w.heap.size := by simp [w']
  refine ⟨w', φ.put k ent, St', hrun, ?_, m, put_same _ _ _, fun b hb => put_other _ _ _ _ hb, fun j h1 h2 => .inr ⟨rfl, h1, h2⟩, fun r' j hs => hs.imp id (·.1), hcell, hother, hsize, rfl, rfl, rfl⟩
  refine R.change k ent (.tail n) St' h' w' m (by omega) hkb.1 hkb.2.1 hkb.2.2 ?_ ?_ ?_ ?_ ?_
  · intro b' e' r' hne hb he
    exact hother r' (fun e => hno b' e' hne hb (e ▸ he))
  · intro r' j hs
    rw [hsize]
    rcases hs with hs | ⟨rfl, _⟩
    · exact R.stLt r' j hs
    · exact hrl
  · intro r' j hs
    rcases hs with hs | ⟨rfl, _⟩
    · exact .inl hs
    · exact .inr fun b' e' hne hb => hno b' e' hne hb
  · intro r' he b' e' hne hb
    simp [ent, Ent.blk] at he; subst he
    exact hno b' e' hne hb
  · refine ⟨hN, rfl, by omega, ⟨arr', elem, setRow_heap w r arr arr' elem.1 elem.2 hw, hl', hz⟩, fun j hs => ?_⟩
    rcases hs with hs | ⟨_, _, hj⟩
    · have := hst j hs; omega
    · exact hj
end
end Go.Eng
