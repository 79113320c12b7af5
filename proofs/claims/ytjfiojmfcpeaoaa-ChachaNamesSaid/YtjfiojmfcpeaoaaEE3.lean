/- Operations on memory. -/
import Derived.Test.YtjfiojmfcpeaoaaEE2
namespace Go.Eng
set_option linter.unusedVariables false

/-- An operation that answers c, and leaves the clean heap h'. -/
def OpOk (P : Program) (N : Nat) (φ : Phi) (St : Stab) (h : Heap) (w : World) (s : Sem Value) (c : CV) (h' : Heap) : Prop :=
  ∃ v w' φ' St', s.run P w = .ok v w' ∧ Rel N φ' St' h' w' ∧ VR φ' St' w' c v ∧ Frm h.length φ St w φ' St' w'

def fieldAddrC (ty : Ty) (h : Heap) (s : TypeId) (x : CV) (f : Nat) : Option CV :=
  match ty s with
  | some i => match i.desc with
    | .struct fs => match fs[f]? with
      | some fld => match ty fld.type with
        | some j => if j.size = 0 then none else
          match x with
          | .ptr b off => if live h b then some (.ptr b (off + fld.offset)) else none
          | .rop c => (partC j c.flat fld.offset).map .rop
          | _ => none
        | none => none
      | none => none
    | _ => none
  | none => none

def indexAddrC (ty : Ty) (h : Heap) (t : TypeId) (x ix : CV) : Option CV :=
  match ix with
  | .int _ n =>
    match ty t with
    | some i => match i.desc with
      | .array len e => match ty e with
        | some j => if 0 ≤ n ∧ n < len then
            match x with
            | .ptr b off => if live h b then some (.ptr b (off + n.toNat * j.size)) else none
            | .rop c => (partC j c.flat (n.toNat * j.size)).map .rop
            | _ => none
          else none
        | none => none
      | .slice e => match ty e with
        | some j => if 0 ≤ n then
            match x with
            | .slice esz xs _ _ => if esz = j.size then (xs[n.toNat]?).map .rop else none
            | .sref esz b off len _ _ => if esz = j.size ∧ n < len ∧ live h b then some (.ptr b (off + n.toNat * j.size)) else none
            | _ => none
          else none
        | none => none
      | _ => none
    | none => none
  | _ => none

def loadC (ty : Ty) (h : Heap) (t : TypeId) (x : CV) : Option CV :=
  match ty t with
  | some j =>
    match x with
    | .ptr b off => match h[b]? with
      | some (.cells cs) => partC j cs off
      | _ => none
    | .rop c => match c with
      | .agg cs => if j.agg ∧ cs.length = j.size then some (.agg cs) else none
      | c => if !j.agg ∧ c.one then some c else none
    | _ => none
  | none => none

def storeC (ty : Ty) (h : Heap) (t : TypeId) (x v : CV) : Option Heap :=
  match ty t, x with
  | some j, .ptr b off => match h[b]? with
    | some (.cells cs) =>
      if v.flat.length = j.size ∧ off + j.size ≤ cs.length ∧ v.flat.all CV.one then some (h.set b (.cells (splice cs off v.flat))) else none
    | _ => none
  | _, _ => none

section
variable {P : Program} {N : Nat} {φ : Phi} {St : Stab} {h : Heap} {w : World}

theorem rd {s : Sem Value} {c : CV} {v : Value} (hr : s.run P w = .ok v w) (hv : VR φ St w c v) : ∃ r, s.run P w = .ok r w ∧ VR φ St w c r := ⟨v, hr, hv⟩
theorem OpOk.pure (R : Rel N φ St h w) {s : Sem Value} {c : CV} {v : Value} (hr : s.run P w = .ok v w) (hv : VR φ St w c v) : OpOk P N φ St h w s c h :=
  ⟨v, w, φ, St, hr, R, hv, Frm.refl _ _ _ _⟩

theorem partC_flat {i : TI} (h1 : i.agg = false → i.size = 1) {cs : List CV} {off : Nat} {c : CV} (hc : partC i cs off = some c) :
    c.flat = (cs.drop off).take i.size ∧ off + i.size ≤ cs.length := by
  unfold partC at hc
  split at hc
  · split at hc
    · simp at hc; subst hc; exact ⟨rfl, by assumption⟩
    · simp at hc
  · rename_i ha
    have hs := h1 (by simpa using ha)
    split at hc
    · rename_i x hx
      split at hc
      · simp at hc; subst hc
        have hlt := (List.getElem?_eq_some_iff.1 hx).1
        refine ⟨?_, by omega⟩
        have : x.flat = [x] := by cases x <;> first | rfl | (rename_i h1; simp [CV.one] at h1)
        rw [this, hs, List.take_one, List.head?_drop, hx]
        rfl
      · simp at hc
    · simp at hc

theorem CV.flat_one {c : CV} (h : c.one = true) : c.flat = [c] := by cases c <;> first | rfl | (simp [CV.one] at h)

theorem At.sub {a : Addr} {vs : List Value} (h : At St w a vs) (off n : Nat) : At St w (a.add off) ((vs.drop off).take n) := by
  rw [add_at' a h.1]
  refine ⟨rfl, fun j v hv => ?_⟩
  have hj : j < n := by have := (List.getElem?_eq_some_iff.1 hv).1; simp at this; omega
  rw [List.getElem?_take_of_lt hj, List.getElem?_drop] at hv
  have := h.2 (off + j) v hv
  simpa [Nat.add_assoc] using this

theorem At.cell {a : Addr} {vs : List Value} (h : At St w a vs) (j : Nat) (v : Value) (hv : vs[j]? = some v) : w.cell? (a.add j) = some v := by
  rw [add_at' a h.1]; exact (h.2 j v hv).2

theorem VRL.single {c : CV} {vs : List Value} (h : VRL φ St w [c] vs) : ∃ v, vs = [v] ∧ VR φ St w c v := by
  cases h with | cons _ v _ vs h hs => cases hs; exact ⟨v, rfl, h⟩

section
variable {ty : Ty} (hty : ty.Ok P) (R : Rel N φ St h w)
include hty

/-- A variable whose cells are these is read so. -/
theorem run_loadVarC {t : TypeId} {j : TI} (hj : ty t = some j) {a : Addr} {vs : List Value} (hl : vs.length = j.size) (hc : ∀ (k : Nat) (v : Value), vs[k]? = some v → w.cell? (a.add k) = some v) :
    (j.agg = true → (loadVar t a).run P w = .ok (.agg vs.toArray) w) ∧ (∀ v, j.agg = false → vs = [v] → (loadVar t a).run P w = .ok v w) := by
  constructor
  · intro ha
    have := run_loadCells_list P w a vs hc
    rw [hl] at this
    simp [loadVar, run_isAggC hty hj, ha, run_sizeC hty hj, this]
  · intro v ha hv
    subst hv
    have h0 := hc 0 v rfl
    rw [show a.add 0 = a from by simp [Addr.add]] at h0
    simp [loadVar, run_isAggC hty hj, ha, h0]

include R
theorem fieldAddrC_ok {s : TypeId} {x : CV} {f : Nat} {c : CV} (hc : fieldAddrC ty h s x f = some c) {v : Value} (hx : VR φ St w x v) :
    ∃ r, (Instr.fieldAt s v f).run P w = .ok r w ∧ VR φ St w c r := by
  unfold fieldAddrC at hc
  split at hc <;> (try (simp at hc; done))
  rename_i i hi
  split at hc <;> (try (simp at hc; done))
  rename_i fs hd
  split at hc <;> (try (simp at hc; done))
  rename_i fld hf
  split at hc <;> (try (simp at hc; done))
  rename_i j hj
  split at hc <;> (try (simp at hc; done))
  rename_i hsz
  have hu := run_und hty hi w
  rw [hd] at hu
  split at hc <;> (try (simp at hc; done))
  · split at hc <;> (try (simp at hc; done))
    rename_i hl
    simp at hc; subst hc
    obtain ⟨r, base, size, hφ, rfl⟩ := alive_ptr R hx hl
    refine rd (v := .pointer (some ⟨r, base + (_ + fld.offset), none⟩)) ?_ (.ptr _ _ _ _ _ hφ)
    simp [Instr.fieldAt, hu, hf, Instr.sureAddr, fieldPlace, run_sizeC hty hj, hsz, add_at, Nat.add_assoc]
  · rename_i c0
    cases hp : partC j c0.flat fld.offset with
    | none => simp [hp] at hc
    | some cp =>
      simp [hp] at hc; subst hc
      cases hx with
      | rop _ a vs hat hvs =>
        obtain ⟨hfl, hle⟩ := partC_flat (hty _ _ hj).one hp
        refine rd (v := .pointer (some (a.add fld.offset))) ?_ (.rop cp _ ((vs.drop fld.offset).take j.size) (hat.sub _ _) (by rw [hfl]; exact (hvs.drop _).take _))
        simp [Instr.fieldAt, hu, hf, Instr.sureAddr, fieldPlace, run_sizeC hty hj, hsz]

theorem indexAddrC_ok {t : TypeId} {x ix c : CV} (hc : indexAddrC ty h t x ix = some c) {v vi : Value} (hx : VR φ St w x v) (hi : VR φ St w ix vi) :
    ∃ r, (Instr.indexAt t v vi).run P w = .ok r w ∧ VR φ St w c r := by
  unfold indexAddrC at hc
  split at hc <;> (try (simp at hc; done))
  rename_i k n
  cases hi
  split at hc <;> (try (simp at hc; done))
  rename_i i hti
  have hu := run_und hty hti w
  split at hc <;> (try (simp at hc; done))
  · rename_i len e hd
    rw [hd] at hu
    split at hc <;> (try (simp at hc; done))
    rename_i j hj
    split at hc <;> (try (simp at hc; done))
    rename_i hn
    split at hc <;> (try (simp at hc; done))
    · split at hc <;> (try (simp at hc; done))
      rename_i hl
      simp at hc; subst hc
      obtain ⟨r, base, size, hφ, rfl⟩ := alive_ptr R hx hl
      refine rd (v := .pointer (some ⟨r, base + (_ + n.toNat * j.size), none⟩)) ?_ (.ptr _ _ _ _ _ hφ)
      simp [Instr.indexAt, asIntOf, hu, Instr.sureAddr, hn, run_sizeC hty hj, add_at, Nat.add_assoc]
    · rename_i c0
      cases hp : partC j c0.flat (n.toNat * j.size) with
      | none => simp [hp] at hc
      | some cp =>
        simp [hp] at hc; subst hc
        cases hx with
        | rop _ a vs hat hvs =>
          obtain ⟨hfl, hle⟩ := partC_flat (hty _ _ hj).one hp
          refine rd (v := .pointer (some (a.add (n.toNat * j.size)))) ?_ (.rop cp _ ((vs.drop (n.toNat * j.size)).take j.size) (hat.sub _ _) (by rw [hfl]; exact (hvs.drop _).take _))
          simp [Instr.indexAt, asIntOf, hu, Instr.sureAddr, hn, run_sizeC hty hj]
  · rename_i e hd
    rw [hd] at hu
    split at hc <;> (try (simp at hc; done))
    rename_i j hj
    split at hc <;> (try (simp at hc; done))
    rename_i hn
    split at hc <;> (try (simp at hc; done))
    · rename_i esz xs tok full
      split at hc <;> (try (simp at hc; done))
      rename_i hes
      subst hes
      cases hg : xs[n.toNat]? with
      | none => simp [hg] at hc
      | some x0 =>
        simp [hg] at hc; subst hc
        have hlt := (List.getElem?_eq_some_iff.1 hg).1
        cases hx with
        | slice _ _ _ _ a cap vs hat hvs hsz hcap hfull htok =>
          rcases hat with hat | ⟨a', rfl, hat⟩
          · subst hat; simp at hlt
          · have hfm : ∀ (ys : List CV) (m : Nat), (∀ y ∈ ys, y.flat.length = j.size) → ys[m]? = some x0 → ((ys.flatMap CV.flat).drop (m * j.size)).take j.size = x0.flat := by
              intro ys
              induction ys with
              | nil => intro m _ hm; simp at hm
              | cons y ys ih =>
                intro m hy hm
                have hyl := hy y (by simp)
                cases m with
                | zero => simp at hm; subst hm; simp [← hyl]
                | succ m =>
                  have := ih m (fun z hz => hy z (by simp [hz])) (by simpa using hm)
                  rw [List.flatMap_cons, show (m + 1) * j.size = y.flat.length + m * j.size by rw [hyl, Nat.add_mul]; omega, List.drop_append, List.drop_eq_nil_of_le (by omega), List.nil_append, Nat.add_sub_cancel_left]
                  exact this
            refine rd (v := .pointer (some (a'.add (n.toNat * j.size)))) ?_ (.rop x0 _ ((vs.drop (n.toNat * j.size)).take j.size) (hat.sub _ _) ?_)
            · have : n < (xs.length : Int) := by omega
              simp [Instr.indexAt, asIntOf, hu, hn, run_sizeC hty hj, this]
            · rw [← hfm xs n.toNat hsz hg]; exact (hvs.drop _).take _
    · rename_i esz b off len cap ex
      split at hc <;> (try (simp at hc; done))
      rename_i hes
      obtain ⟨rfl, hlt, hl⟩ := hes
      simp at hc; subst hc
      obtain ⟨r, base, size, rcap, hφ, rfl, _⟩ := alive_sref R hx hl
      refine rd (v := .pointer (some ⟨r, base + (off + n.toNat * j.size), none⟩)) ?_ (.ptr _ _ _ _ _ hφ)
      simp [Instr.indexAt, asIntOf, hu, hn, run_sizeC hty hj, add_at, Nat.add_assoc, hlt]

theorem loadC_ok {t : TypeId} {x c : CV} (hc : loadC ty h t x = some c) {v : Value} (hx : VR φ St w x v) :
    ∃ r, (Instr.loadAt t v).run P w = .ok r w ∧ VR φ St w c r := by
  unfold loadC at hc
  split at hc <;> (try (simp at hc; done))
  rename_i j hj
  split at hc <;> (try (simp at hc; done))
  · rename_i b off
    split at hc <;> (try (simp at hc; done))
    rename_i cs hb
    obtain ⟨r, base, size, hφ, rfl⟩ := alive_ptr R hx (by simp [live, hb])
    obtain ⟨hfl, hle⟩ := partC_flat (hty _ _ hj).one hc
    obtain ⟨vs, hvs, hlen, hcell⟩ := R.cells hφ hb off j.size hle
    have hrun := run_loadVarC (w := w) hty hj (a := ⟨r, base + off, none⟩) hlen (fun k v hv => by rw [add_at]; exact hcell k v hv)
    rw [← hfl] at hvs
    cases ha : j.agg with
    | true =>
      have : c = .agg c.flat := by
        unfold partC at hc; simp [ha] at hc; obtain ⟨_, hc⟩ := hc; subst hc; rfl
      rw [this]
      exact rd (by simpa [Instr.loadAt, Instr.sureAddr] using hrun.1 ha) (.agg _ _ hvs)
    | false =>
      have hone : c.one = true := by
        unfold partC at hc; simp [ha] at hc
        split at hc
        · split at hc
          · simp at hc; subst hc; assumption
          · simp at hc
        · simp at hc
      rw [CV.flat_one hone] at hvs
      obtain ⟨v, rfl, hv⟩ := hvs.single
      exact rd (by simpa [Instr.loadAt, Instr.sureAddr] using hrun.2 v ha rfl) hv
  · rename_i c0
    cases hx with
    | rop _ a vs hat hvs =>
      split at hc
      · rename_i cs
        split at hc
        · rename_i hcond
          obtain ⟨ha, hl⟩ := hcond
          simp at hc; subst hc
          have hlen : vs.length = j.size := by have := hvs.length; simp [CV.flat] at this; omega
          have hrun := run_loadVarC (w := w) hty hj (a := a) hlen (fun k v hv => hat.cell k v hv)
          exact rd (by simpa [Instr.loadAt, Instr.sureAddr] using hrun.1 ha) (.agg _ _ hvs)
        · simp at hc
      · split at hc
        · rename_i hcond
          simp at hcond
          obtain ⟨ha, hone⟩ := hcond
          simp at hc; subst hc
          rw [CV.flat_one hone] at hvs
          obtain ⟨v, rfl, hv⟩ := hvs.single
          have hrun := run_loadVarC (w := w) hty hj (a := a) (vs := [v]) (by simp [(hty _ _ hj).one ha]) (fun k v hv => hat.cell k v hv)
          exact rd (by simpa [Instr.loadAt, Instr.sureAddr] using hrun.2 v ha rfl) hv
        · simp at hc

theorem storeC_ok {t : TypeId} {x c : CV} {h' : Heap} (hc : storeC ty h t x c = some h') {v vc : Value} (hx : VR φ St w x v) (hv : VR φ St w c vc) :
    ∃ w', (Instr.storeAt t v vc).run P w = .ok () w' ∧ Rel N φ St h' w' ∧ Frm h.length φ St w φ St w' := by
  unfold storeC at hc
  split at hc <;> (try (simp at hc; done))
  rename_i j b off hj
  split at hc <;> (try (simp at hc; done))
  rename_i cs hb
  split at hc <;> (try (simp at hc; done))
  rename_i hcond
  obtain ⟨h1, h2, h3⟩ := hcond
  simp at hc; subst hc
  obtain ⟨r, base, size, hφ, rfl⟩ := alive_ptr R hx (by simp [live, hb])
  have hone : ∀ d ∈ c.flat, d.one = true := by simpa using h3
  have hj1 : c ≠ .junk := by
    intro e; subst e; have := hone .junk (by simp [CV.flat]); simp [CV.one] at this
  obtain ⟨w', hrun, R', F⟩ := R.store P hφ hb off c.flat vc.cells.toList (hv.flat hj1) hone (by omega)
  refine ⟨w', ?_, R', F⟩
  have hl := (hv.flat hj1).length
  have hs : vc.cells.size = j.size := by rw [← Array.length_toList]; omega
  simp [Instr.storeAt, Instr.sureAddr, storeVar, run_sizeC hty hj, hs, hrun]
end
end
end Go.Eng
