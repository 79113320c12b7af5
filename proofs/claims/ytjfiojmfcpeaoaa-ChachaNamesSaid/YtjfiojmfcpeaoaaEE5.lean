/- Slices: parts of them, append, copy. -/
import Derived.Test.YtjfiojmfcpeaoaaEE4
namespace Go.Eng
set_option linter.unusedVariables false

section
variable {P : Program} {N : Nat} {φ : Phi} {St : Stab} {h : Heap} {w : World}

/-- Elements out of cells. -/
def chunks (agg : Bool) (esz : Nat) : Nat → List CV → List CV
  | 0, _ => []
  | n + 1, cs => (if agg then .agg (cs.take esz) else cs.headD .junk) :: chunks agg esz n (cs.drop esz)

theorem chunks_flat {agg : Bool} {esz : Nat} (h1 : agg = false → esz = 1) : ∀ (n : Nat) (cs : List CV), n * esz ≤ cs.length → cs.all CV.one = true →
    (chunks agg esz n cs).flatMap CV.flat = cs.take (n * esz) ∧ ∀ x ∈ chunks agg esz n cs, x.flat.length = esz
  | 0, cs, _, _ => by simp [chunks]
  | n + 1, cs, hl, ho => by
    have e1 : (n + 1) * esz = esz + n * esz := by rw [Nat.add_mul]; omega
    obtain ⟨g1, g2⟩ := chunks_flat h1 n (cs.drop esz) (by simp; omega) (by
      rw [List.all_eq_true] at ho ⊢; exact fun x hx => ho x (List.mem_of_mem_drop hx))
    have hx : (if agg then CV.agg (cs.take esz) else cs.headD .junk).flat = cs.take esz := by
      cases agg with
      | true => rfl
      | false =>
        have := h1 rfl; subst this
        cases cs with
        | nil => simp at hl
        | cons c cs =>
          have : c.one = true := by rw [List.all_eq_true] at ho; exact ho c (by simp)
          simp [CV.flat_one this]
    refine ⟨?_, ?_⟩
    · simp only [chunks, List.flatMap_cons, hx, g1]
      rw [e1, List.take_add]
    · intro x hx'
      simp only [chunks, List.mem_cons] at hx'
      rcases hx' with rfl | hx'
      · rw [hx]; simp; omega
      · exact g2 x hx'

theorem length_chunks {agg : Bool} {esz : Nat} : ∀ (n : Nat) (cs : List CV), (chunks agg esz n cs).length = n
  | 0, _ => rfl
  | n + 1, cs => by simp [chunks, length_chunks n]

def boundC (x : CV) (y : Nat) : Option Nat :=
  match x with
  | .int _ n => if 0 ≤ n ∧ n ≤ y then some n.toNat else none
  | _ => none

def optBoundC (x : Option CV) (y d : Nat) : Option Nat :=
  match x with
  | some x => boundC x y
  | none => some d

/-- low, high, max; y: what high and max may be at most; d: what high is where it is not said. -/
def boundsC (lo hi mx : Option CV) (y d : Nat) : Option (Nat × Nat × Nat) :=
  match mx, hi with
  | some _, none => none
  | _, _ =>
    match optBoundC mx y y with
    | none => none
    | some m => match optBoundC hi m d with
      | none => none
      | some h => match optBoundC lo h 0 with
        | none => none
        | some l => some (l, h, m)

theorem boundC_ok {x : CV} {y n : Nat} (hb : boundC x y = some n) {v : Value} (hv : VR φ St w x v) (Y : Nat) (hY : y ≤ Y) (code : BoundsCode) :
    (Instr.sliceBound v Y code).run P w = .ok n w ∧ n ≤ y := by
  unfold boundC at hb
  split at hb <;> (try (simp at hb; done))
  split at hb <;> (try (simp at hb; done))
  rename_i hc
  simp at hb; subst hb
  cases hv
  refine ⟨?_, by omega⟩
  simp only [Instr.sliceBound, asIntOf, Sem.run_bind, Sem.run_pure, Result.andThen_ok]
  rw [if_pos (by omega)]
  rfl

/-- What operands there may be, or not. -/
inductive VRO (φ : Phi) (St : Stab) (w : World) : Option CV → Option Value → Prop where
  | none : VRO φ St w none none
  | some (c : CV) (v : Value) (h : VR φ St w c v) : VRO φ St w (some c) (some v)

theorem boundsC_ok {lo hi mx : Option CV} {y d l hh m : Nat} (hb : boundsC lo hi mx y d = some (l, hh, m)) {vlo vhi vmx : Option Value}
    (h1 : VRO φ St w lo vlo) (h2 : VRO φ St w hi vhi) (h3 : VRO φ St w mx vmx) (isSlice : Bool) (Y : Nat) (hY : y ≤ Y) (hd : d ≤ y) (hmx : mx = none → vmx = none) :
    (Instr.sliceBounds isSlice d Y vlo vhi vmx).run P w = .ok (l, hh, if mx.isSome then m else Y) w ∧ l ≤ hh ∧ hh ≤ m ∧ m ≤ y ∧ (mx = none → m = y) := by
  unfold boundsC at hb
  cases h3 with
  | none =>
    simp only [optBoundC] at hb
    cases h2 with
    | none =>
      simp only at hb
      cases h1 with
      | none => simp at hb; obtain ⟨rfl, rfl, rfl⟩ := hb; simp [Instr.sliceBounds]; omega
      | some c v hv =>
        simp only at hb
        cases hx : boundC c d with
        | none => simp [hx] at hb
        | some n =>
          simp [hx] at hb; obtain ⟨rfl, rfl, rfl⟩ := hb
          obtain ⟨g1, g2⟩ := boundC_ok (P := P) hx hv d (Nat.le_refl _) .sliceB
          simp [Instr.sliceBounds, g1]; omega
    | some c v hv =>
      simp only at hb
      cases hx : boundC c y with
      | none => simp [hx] at hb
      | some n =>
        simp only [hx] at hb
        obtain ⟨g1, g2⟩ := boundC_ok (P := P) hx hv Y hY (if isSlice then .sliceAcap else .sliceAlen)
        cases h1 with
        | none => simp at hb; obtain ⟨rfl, rfl, rfl⟩ := hb; simp [Instr.sliceBounds, g1]; omega
        | some c' v' hv' =>
          simp only at hb
          cases hx' : boundC c' n with
          | none => simp [hx'] at hb
          | some n' =>
            simp [hx'] at hb; obtain ⟨rfl, rfl, rfl⟩ := hb
            obtain ⟨k1, k2⟩ := boundC_ok (P := P) hx' hv' n (Nat.le_refl _) .sliceB
            simp [Instr.sliceBounds, g1, k1]; omega
  | some cm vm hm =>
    cases h2 with
    | none => simp at hb
    | some c v hv =>
      simp only [optBoundC] at hb
      cases hxm : boundC cm y with
      | none => simp [hxm] at hb
      | some nm =>
        simp only [hxm] at hb
        obtain ⟨m1, m2⟩ := boundC_ok (P := P) hxm hm Y hY (if isSlice then .slice3Acap else .slice3Alen)
        cases hx : boundC c nm with
        | none => simp [hx] at hb
        | some n =>
          simp only [hx] at hb
          obtain ⟨g1, g2⟩ := boundC_ok (P := P) hx hv nm (Nat.le_refl _) .slice3B
          cases h1 with
          | none => simp at hb; obtain ⟨rfl, rfl, rfl⟩ := hb; simp [Instr.sliceBounds, m1, g1]; omega
          | some c' v' hv' =>
            simp only at hb
            cases hx' : boundC c' n with
            | none => simp [hx'] at hb
            | some n' =>
              simp [hx'] at hb; obtain ⟨rfl, rfl, rfl⟩ := hb
              obtain ⟨k1, k2⟩ := boundC_ok (P := P) hx' hv' n (Nat.le_refl _) .slice3C
              simp [Instr.sliceBounds, m1, g1, k1]; omega

def sliceC (ty : Ty) (h : Heap) (t : TypeId) (x : CV) (lo hi mx : Option CV) : Option CV :=
  match ty t with
  | none => none
  | some i =>
    match i.desc, x with
    | .string, .str s => if mx.isSome then none else
      match boundsC lo hi none s.length s.length with
      | some (l, hh, _) => some (.str ((s.take hh).drop l))
      | none => none
    | .slice e, .slice esz xs tok full =>
      match ty e with
      | none => none
      | some j => if esz = j.size ∨ xs = [] then
          match boundsC lo hi mx xs.length xs.length with
          | some (l, hh, m) => some (.slice j.size ((xs.take hh).drop l) (if mx.isNone ∧ l = 0 ∧ hh = xs.length ∧ esz = j.size then tok else none)
              (if mx.isSome then hh == m else full && hh == xs.length))
          | none => none
        else none
    | .slice e, .sref esz b off len cap ex =>
      match ty e with
      | none => none
      | some j => if esz = j.size ∧ live h b then
          match boundsC lo hi mx cap len with
          | some (l, hh, m) =>
            if l < m then some (.sref esz b (off + l * esz) (hh - l) (m - l) (mx.isSome || ex)) else some (.slice j.size [] none (mx.isSome || ex))
          | none => none
        else none
    | .array n e, .ptr b off =>
      match ty e, h[b]? with
      | some j, some (.cells cs) =>
        if off + n * j.size ≤ cs.length then
          match boundsC lo hi mx n n with
          | some (l, hh, m) => if l < m then some (.sref j.size b (off + l * j.size) (hh - l) (m - l) true) else some (.slice j.size [] none true)
          | none => none
        else none
      | _, _ => none
    | .array n e, .rop (.agg cs) =>
      match ty e with
      | some j =>
        if n * j.size ≤ cs.length ∧ cs.all CV.one then
          match boundsC lo hi mx n n with
          | some (l, hh, m) => some (.slice j.size (((chunks j.agg j.size n cs).take hh).drop l) none (hh == m))
          | none => none
        else none
      | none => none
    | _, _ => none

theorem flat_drop {esz : Nat} : ∀ (xs : List CV) (l : Nat), (∀ x ∈ xs, x.flat.length = esz) → (xs.drop l).flatMap CV.flat = (xs.flatMap CV.flat).drop (l * esz)
  | [], l, _ => by simp
  | x :: xs, 0, _ => by simp
  | x :: xs, l + 1, hx => by
    have := flat_drop xs l (fun y hy => hx y (by simp [hy]))
    have h1 := hx x (by simp)
    rw [List.drop_succ_cons, this, List.flatMap_cons, show (l + 1) * esz = x.flat.length + l * esz by rw [h1, Nat.add_mul]; omega,
      List.drop_append, List.drop_eq_nil_of_le (as := x.flat) (by omega), List.nil_append, Nat.add_sub_cancel_left]
theorem flat_take {esz : Nat} : ∀ (xs : List CV) (l : Nat), (∀ x ∈ xs, x.flat.length = esz) → (xs.take l).flatMap CV.flat = (xs.flatMap CV.flat).take (l * esz)
  | [], l, _ => by simp
  | x :: xs, 0, _ => by simp
  | x :: xs, l + 1, hx => by
    have := flat_take xs l (fun y hy => hx y (by simp [hy]))
    have h1 := hx x (by simp)
    rw [List.take_succ_cons, List.flatMap_cons, this, List.flatMap_cons, show (l + 1) * esz = x.flat.length + l * esz by rw [h1, Nat.add_mul]; omega,
      List.take_append, List.take_of_length_le (l := x.flat) (by omega), Nat.add_sub_cancel_left]
theorem flat_length {esz : Nat} : ∀ (xs : List CV), (∀ x ∈ xs, x.flat.length = esz) → (xs.flatMap CV.flat).length = xs.length * esz
  | [], _ => by simp
  | x :: xs, hx => by
    rw [List.flatMap_cons, List.length_append, flat_length xs (fun y hy => hx y (by simp [hy])), hx x (by simp), List.length_cons, Nat.add_mul]; omega

/-- A part of a slice that is not written. -/
theorem lit_part {esz : Nat} {xs : List CV} {a : Option Addr} {vs : List Value} (hat : xs = [] ∨ ∃ a', a = some a' ∧ At St w a' vs) (hvs : VRL φ St w (xs.flatMap CV.flat) vs)
    (hsz : ∀ x ∈ xs, x.flat.length = esz) (l hh : Nat) (hl : l ≤ hh) (hhl : hh ≤ xs.length) (cap m : Nat) (hm : hh ≤ m) (tok : Option Nat) (full : Bool) (hf : full = true → m - l = hh - l)
    (htok : TokOk φ tok (if m = l then a else a.map (·.add (l * esz))) (hh - l) esz (m - l)) :
    VR φ St w (.slice esz ((xs.take hh).drop l) tok full) (.slice (if m = l then a else a.map (·.add (l * esz))) (hh - l) (m - l)) := by
  have hlen : ((xs.take hh).drop l).length = hh - l := by simp; omega
  have hsz' : ∀ x ∈ (xs.take hh).drop l, x.flat.length = esz := fun x hx => hsz x (List.mem_of_mem_take (List.mem_of_mem_drop hx))
  have hfl : ((xs.take hh).drop l).flatMap CV.flat = ((xs.flatMap CV.flat).take (hh * esz)).drop (l * esz) := by
    rw [flat_drop _ _ (fun x hx => hsz x (List.mem_of_mem_take hx)), flat_take _ _ hsz]
  have := VR.slice (φ := φ) (St := St) (w := w) esz ((xs.take hh).drop l) tok full (if m = l then a else a.map (·.add (l * esz))) (m - l) ((vs.take (hh * esz)).drop (l * esz))
    ?_ (by rw [hfl]; exact (hvs.take _).drop _) hsz' (by rw [hlen]; omega) (by rw [hlen]; exact hf) (by rw [hlen]; exact htok)
  · rwa [hlen] at this
  · rcases hat with hat | ⟨a', rfl, hat⟩
    · subst hat; left; simp
    · by_cases hml : m = l
      · left; apply List.eq_nil_of_length_eq_zero; omega
      · right
        refine ⟨a'.add (l * esz), by simp [hml], ?_⟩
        rw [List.drop_take]
        exact hat.sub _ _

section
variable {ty : Ty} (hty : ty.Ok P) (R : Rel N φ St h w)
include hty R
theorem sliceC_ok {t : TypeId} {x c : CV} {lo hi mx : Option CV} (hc : sliceC ty h t x lo hi mx = some c) {v : Value} {vlo vhi vmx : Option Value} (hx : VR φ St w x v)
    (h1 : VRO φ St w lo vlo) (h2 : VRO φ St w hi vhi) (h3 : VRO φ St w mx vmx) : ∃ r, (Instr.sliceAt t v vlo vhi vmx).run P w = .ok r w ∧ VR φ St w c r := by
  have hmx : mx = none → vmx = none := by intro e; subst e; cases h3; rfl
  have hms : mx.isSome = vmx.isSome := by cases h3 <;> rfl
  unfold sliceC at hc
  split at hc
  · simp at hc
  rename_i i hi
  have hu := run_und hty hi w
  split at hc
  · -- a string
    rename_i s hd
    rw [hd] at hu
    split at hc <;> (try (simp at hc; done))
    rename_i hm
    have hmn : mx = none := by simpa using hm
    subst hmn
    cases h3
    split at hc <;> (try (simp at hc; done))
    rename_i l hh m hb
    simp at hc; subst hc
    cases hx with | str _ ts hs =>
    subst hs
    obtain ⟨g1, g2, g3, g4, g5⟩ := boundsC_ok (P := P) hb h1 h2 .none false _ (Nat.le_refl _) (Nat.le_refl _) (fun _ => rfl)
    refine rd (v := .string (ts.extract l hh)) ?_ (.str _ _ ?_)
    · have hsz : ts.data.toList.length = ts.size := Array.length_toList
      rw [hsz] at g1
      simp [Instr.sliceAt, Instr.slice, hu, g1]
    · simp [ByteArray.data_extract, List.extract_eq_take_drop, List.drop_take]
  · -- a slice that is not written
    rename_i e esz xs tok full hd
    rw [hd] at hu
    split at hc <;> (try (simp at hc; done))
    rename_i j hj
    split at hc <;> (try (simp at hc; done))
    rename_i hes
    split at hc <;> (try (simp at hc; done))
    rename_i l hh m hb
    simp only [Option.some.injEq] at hc; subst hc
    cases hx with | slice _ _ _ _ a cap vs hat hvs hsz hcap hfull htok =>
    obtain ⟨g1, g2, g3, g4, g5⟩ := boundsC_ok (P := P) hb h1 h2 h3 true cap hcap (Nat.le_refl _) hmx
    have hsz' : ∀ x ∈ xs, x.flat.length = j.size := by
      rcases hes with rfl | rfl
      · exact hsz
      · simp
    refine rd (v := .slice (if (if mx.isSome then m else cap) = l then a else a.map (·.add (l * j.size))) (hh - l) ((if mx.isSome then m else cap) - l)) ?_ ?_
    · simp [Instr.sliceAt, Instr.slice, hu, g1, run_sizeC hty hj]
    · refine lit_part hat hvs hsz' l hh g2 (by omega) cap _ ?_ _ _ ?_ ?_
      · split <;> omega
      · intro hf
        split at hf
        · rename_i hm; simp at hf; simp [hm, hf]
        · rename_i hm; simp at hf; simp [hm, hf.2, hfull hf.1]
      · split
        · rename_i ht
          obtain ⟨ht1, rfl, ht2, rfl⟩ := ht
          have : mx = none := by simpa using ht1
          subst this
          simp only [Option.isSome_none, Bool.false_eq_true, if_false, Nat.zero_mul, Nat.sub_zero]
          have e : (if cap = 0 then a else a.map (·.add 0)) = a := by
            split
            · rfl
            · cases a <;> simp [Addr.add]
          rw [e, ht2]; exact htok
        · trivial
  · -- a slice of own cells
    rename_i e esz b off len cap ex hd
    rw [hd] at hu
    split at hc <;> (try (simp at hc; done))
    rename_i j hj
    split at hc <;> (try (simp at hc; done))
    rename_i hes
    obtain ⟨rfl, hlive⟩ := hes
    split at hc <;> (try (simp at hc; done))
    rename_i l hh m hb
    obtain ⟨r, base, size, rcap, hφ, rfl, k1, k2, k3, k4⟩ := alive_sref R hx hlive
    obtain ⟨g1, g2, g3, g4, g5⟩ := boundsC_ok (P := P) hb h1 h2 h3 true rcap k1 k2 hmx
    have hrun : (Instr.sliceAt t (.slice (some ⟨r, base + off, none⟩) len rcap) vlo vhi vmx).run P w =
        .ok (.slice (if (if mx.isSome then m else rcap) = l then some ⟨r, base + off, none⟩ else some ⟨r, base + (off + l * j.size), none⟩) (hh - l) ((if mx.isSome then m else rcap) - l)) w := by
      simp [Instr.sliceAt, Instr.slice, hu, g1, run_sizeC hty hj, add_at, Nat.add_assoc]
    split at hc
    · rename_i hlm
      simp at hc; subst hc
      refine rd hrun ?_
      have : ¬ ((if mx.isSome then m else rcap) = l) := by
        cases hms : mx with
        | none => have := g5 hms; simp; omega
        | some _ => simp; omega
      rw [if_neg this]
      refine .sref _ _ _ _ _ _ r base size _ hφ ?_ (by omega) ?_ ?_
      · cases hms : mx with
        | none => have := g5 hms; simp; omega
        | some _ => simp
      · cases hms : mx with
        | none => have := g5 hms; simp; intro hex; have := k3 hex; omega
        | some _ => simp
      · have : (if mx.isSome then m else rcap) - l ≤ rcap - l := by split <;> omega
        have h5 := Nat.mul_le_mul_right j.size this
        have h6 : l * j.size + (rcap - l) * j.size = rcap * j.size := by rw [← Nat.add_mul]; congr 1; omega
        omega
    · rename_i hlm
      simp at hc; subst hc
      refine rd hrun ?_
      have e1 : hh - l = 0 := by omega
      rw [e1]
      refine .slice _ [] none _ _ _ [] (.inl rfl) .nil (by simp) (Nat.zero_le _) ?_ trivial
      intro hf
      cases hms : mx with
      | none =>
        have := g5 hms
        simp [hms] at hf; have := k3 hf
        simp; omega
      | some _ => simp; omega
  · -- an own array
    rename_i n e b off hd
    rw [hd] at hu
    split at hc <;> (try (simp at hc; done))
    rename_i j cs hj hb
    split at hc <;> (try (simp at hc; done))
    rename_i hle
    split at hc <;> (try (simp at hc; done))
    rename_i l hh m hbd
    obtain ⟨r, base, size, hφ, rfl⟩ := alive_ptr R hx (by simp [live, hb])
    obtain ⟨_, cs', arr, elem, hcs, hw, ⟨ha, _⟩, hb2, _⟩ := R.own b r base size hφ
    rw [hb] at hcs; simp at hcs; subst hcs
    obtain ⟨g1, g2, g3, g4, g5⟩ := boundsC_ok (P := P) hbd h1 h2 h3 false n (Nat.le_refl _) (Nat.le_refl _) hmx
    have hm' : (if mx.isSome then m else n) = m := by
      cases hms : mx with
      | none => have := g5 hms; simp; omega
      | some _ => simp
    rw [hm'] at g1
    have hrun : (Instr.sliceAt t (.pointer (some ⟨r, base + off, none⟩)) vlo vhi vmx).run P w =
        .ok (.slice (if m = l then some ⟨r, base + off, none⟩ else some ⟨r, base + (off + l * j.size), none⟩) (hh - l) (m - l)) w := by
      simp only [Instr.sliceAt, Sem.run_bind, hu, Result.andThen_ok, Instr.sureAddr, Sem.run_pure, g1, run_sizeC hty hj, add_at, Nat.add_assoc]
      split <;> rfl
    split at hc
    · rename_i hlm
      simp at hc; subst hc
      refine rd hrun ?_
      rw [if_neg (by omega)]
      refine .sref _ _ _ _ _ _ r base size _ hφ (Nat.le_refl _) (by omega) (fun _ => rfl) ?_
      have h5 := Nat.mul_le_mul_right j.size g4
      have h6 : l * j.size + (m - l) * j.size = m * j.size := by rw [← Nat.add_mul]; congr 1; omega
      omega
    · rename_i hlm
      simp at hc; subst hc
      refine rd hrun ?_
      have e1 : hh - l = 0 := by omega
      have e2 : m - l = 0 := by omega
      rw [e1, e2]
      exact .slice _ [] none _ _ _ [] (.inl rfl) .nil (by simp) (Nat.zero_le _) (fun _ => rfl) trivial
  · -- an array that is not written
    rename_i n e cs hd
    rw [hd] at hu
    split at hc <;> (try (simp at hc; done))
    rename_i j hj
    split at hc <;> (try (simp at hc; done))
    rename_i hle
    split at hc <;> (try (simp at hc; done))
    rename_i l hh m hbd
    simp at hc; subst hc
    cases hx with | rop _ a vs hat hvs =>
    obtain ⟨g1, g2, g3, g4, g5⟩ := boundsC_ok (P := P) hbd h1 h2 h3 false n (Nat.le_refl _) (Nat.le_refl _) hmx
    have hm' : (if mx.isSome then m else n) = m := by
      cases hms : mx with
      | none => have := g5 hms; simp; omega
      | some _ => simp
    rw [hm'] at g1
    obtain ⟨c1, c2⟩ := chunks_flat (hty _ _ hj).one n cs hle.1 hle.2
    have hrun : (Instr.sliceAt t (.pointer (some a)) vlo vhi vmx).run P w =
        .ok (.slice (if m = l then some a else (some a).map (·.add (l * j.size))) (hh - l) (m - l)) w := by
      simp only [Instr.sliceAt, Sem.run_bind, hu, Result.andThen_ok, Instr.sureAddr, Sem.run_pure, g1, run_sizeC hty hj]
      split <;> rfl
    refine rd hrun ?_
    refine lit_part (vs := vs.take (n * j.size)) (.inr ⟨a, rfl, ?_⟩) (by rw [c1]; exact hvs.take _) c2 l hh g2 (by rw [length_chunks]; omega) n m (by omega) none _ (by simp; omega) trivial
    have := hat.sub 0 (n * j.size)
    simpa [Addr.add] using this
  · simp at hc
end
end
end Go.Eng
