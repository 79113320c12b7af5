/- Values that hang on no place, and what is taken out of the clean heap. -/
import Derived.Test.YtjfiojmfcpeaoaaEH4
namespace Go.Eng
set_option linter.unusedVariables false

def Phi0 : Phi := fun _ => none

theorem pureCs_append {xs ys : List CV} : pureCs (xs ++ ys) = (pureCs xs && pureCs ys) := by
  induction xs with
  | nil => simp [pureCs]
  | cons x xs ih => simp [pureCs, ih, Bool.and_assoc]
theorem pureC_flat {c : CV} (h : pureC c = true) : pureCs c.flat = true := by
  cases c <;> simp_all [CV.flat, pureCs, pureC]
theorem pureCs_flatMap {xs : List CV} (h : pureCs xs = true) : pureCs (xs.flatMap CV.flat) = true := by
  induction xs with
  | nil => rfl
  | cons x xs ih =>
    simp only [pureCs, Bool.and_eq_true] at h
    simp only [List.flatMap_cons, pureCs_append, Bool.and_eq_true]
    exact ⟨pureC_flat h.1, ih h.2⟩

section
variable {φ φ' : Phi} {St St' : Stab} {w : World}
theorem At.more {a : Addr} {vs : List Value} (hst : ∀ r j, St r j → St' r j) (h : At St w a vs) : At St' w a vs := ⟨h.1, fun j v hv => ⟨hst _ _ (h.2 j v hv).1, (h.2 j v hv).2⟩⟩

theorem VR.pure {c : CV} {v : Value} (hst : ∀ r j, St r j → St' r j) (h : VR φ St w c v) : pureC c = true → VR φ' St' w c v := by
  refine VR.rec (motive_1 := fun c v _ => pureC c = true → VR φ' St' w c v) (motive_2 := fun c v _ => pureCs c = true → VRL φ' St' w c v) ?junk ?bool ?int ?str ?nilptr ?ptr ?ptrDead ?rop ?slice ?sref ?srefDead ?map ?mapDead
    ?nilmap ?func ?yield ?yieldDead ?nilfunc ?iface ?niliface ?agg ?tuple ?nil ?cons h
  case junk => exact fun _ _ => .junk _
  case bool => exact fun _ _ => .bool _
  case int => exact fun _ _ _ => .int _ _
  case str => exact fun s t h _ => .str s t h
  case nilptr => exact fun _ => .nilptr
  case ptr => intros; simp [pureC] at *
  case ptrDead => intros; simp [pureC] at *
  case rop => intro c a vs hat _ ih hp; exact .rop c a vs (hat.more hst) (ih (pureC_flat (by simpa [pureC] using hp)))
  case slice =>
    intro esz xs tok full a cap vs hat _ hsz hcap hfull htok ih hp
    simp only [pureC, Bool.and_eq_true, Option.isNone_iff_eq_none] at hp
    obtain ⟨rfl, hp⟩ := hp
    exact .slice esz xs none full a cap vs (hat.imp id fun ⟨a', e, h⟩ => ⟨a', e, h.more hst⟩) (ih (pureCs_flatMap hp)) hsz hcap hfull trivial
  case sref => intros; simp [pureC] at *
  case srefDead => intros; simp [pureC] at *
  case map => intros; simp [pureC] at *
  case mapDead => intros; simp [pureC] at *
  case nilmap => exact fun _ => .nilmap
  case func => intro f xs ys us vs _ _ hu hv hp; simp only [pureC, Bool.and_eq_true] at hp; exact .func f xs ys us vs (hu hp.1) (hv hp.2)
  case yield => intros; simp [pureC] at *
  case yieldDead => intros; simp [pureC] at *
  case nilfunc => exact fun _ => .nilfunc
  case iface => intro t c v _ ih hp; exact .iface t c v (ih (by simpa [pureC] using hp))
  case niliface => exact fun _ => .niliface
  case agg => intro cs vs _ ih hp; exact .agg cs vs (ih (by simpa [pureC] using hp))
  case tuple => intro cs vs _ ih hp; exact .tuple cs vs (ih (by simpa [pureC] using hp))
  case nil => exact fun _ => .nil
  case cons => intro c v cs vs _ _ ih ihs hp; simp only [pureCs, Bool.and_eq_true] at hp; exact .cons c v cs vs (ih hp.1) (ihs hp.2)

theorem VRL.pure {cs : List CV} {vs : List Value} (hst : ∀ r j, St r j → St' r j) (h : VRL φ St w cs vs) (hp : pureCs cs = true) : VRL φ' St' w cs vs := by
  induction cs generalizing vs with
  | nil => cases h; exact .nil
  | cons c cs ih =>
    simp only [pureCs, Bool.and_eq_true] at hp
    cases h with | cons _ v _ vs h hs => exact .cons _ _ _ _ (h.pure hst hp.1) (ih hs hp.2)
end

/-- All cells of own blocks stay so from now on. -/
def Froz (φ : Phi) (St : Stab) (H : Heap) : Stab := fun r j => St r j ∨ ∃ b base size cs, φ b = some (.own r base size) ∧ H[b]? = some (.cells cs) ∧ base ≤ j ∧ j < base + cs.length
theorem Froz.of {φ : Phi} {St : Stab} {H : Heap} : ∀ r j, St r j → Froz φ St H r j := fun _ _ h => .inl h

section
variable {P : Program} {N : Nat} {φ : Phi} {St : Stab} {H : Heap} {w : World}

theorem src_at {ty : Ty} (hty : ty.Ok P) (R : Rel N φ St H w) {e : TypeId} {j : TI} (hj : ty e = some j) {x : CV} {ys : List CV} (hs : x.isStr = false) (hc : srcE H j x = some ys) {v : Value} (hx : VR φ St w x v) :
    ∃ a cap vs, v = .slice a ys.length cap ∧ ys.length ≤ cap ∧ VRL φ St w (ys.flatMap CV.flat) vs ∧ (ys = [] ∨ ∃ a', a = some a' ∧ At (Froz φ St H) w a' vs) ∧ ∀ y ∈ ys, y.flat.length = j.size := by
  unfold srcE at hc
  split at hc
  · rename_i esz xs tok full
    split at hc <;> (try (simp at hc; done))
    rename_i hes
    simp at hc; subst hc
    cases hx with | slice _ _ _ _ a cap vs hat hvs hsz hcap hfull htok =>
    refine ⟨a, cap, vs, rfl, hcap, hvs, hat.imp id fun ⟨a', e, h⟩ => ⟨a', e, h.more Froz.of⟩, ?_⟩
    rcases hes with rfl | rfl
    · exact hsz
    · simp
  · rename_i esz b off len cap ex
    split at hc <;> (try (simp at hc; done))
    rename_i bs hb
    split at hc <;> (try (simp at hc; done))
    rename_i hes
    obtain ⟨rfl, hle, hone⟩ := hes
    simp only [Option.some.injEq] at hc; subst hc
    obtain ⟨r, base, size, rcap, hφ, rfl, k1, k2, k3, k4⟩ := alive_sref R hx (by simp [live, hb])
    obtain ⟨vs, hvs, hlen, hcell⟩ := R.cells hφ hb off (len * j.size) hle
    have hl2 : ((bs.drop off).take (len * j.size)).length = len * j.size := by simp; omega
    obtain ⟨g1, g2⟩ := chunks_flat (hty e j hj).one len ((bs.drop off).take (len * j.size)) (by omega) hone
    refine ⟨_, rcap, vs, by rw [length_chunks], by rw [length_chunks]; omega, by rw [g1, List.take_of_length_le (by omega)]; exact hvs, .inr ⟨_, rfl, rfl, fun k u hu => ⟨.inr ⟨b, base, size, bs, hφ, hb, by simp; omega, ?_⟩, hcell k u hu⟩⟩, g2⟩
    have := (List.getElem?_eq_some_iff.1 hu).1
    simp; omega
  · simp [CV.isStr] at hs
  · simp at hc

theorem flat_one {c : CV} (h : c.one = true) : c.flat = [c] := by cases c <;> simp_all [CV.one, CV.flat]

/-- What comes of cells that are taken out. -/
def OutC (φ : Phi) (St : Stab) (H : Heap) (w : World) (cs cs' : List CV) : Prop :=
  cs'.length = cs.length ∧ cs'.all CV.one = true ∧ pureCs cs' = true ∧ ∀ us, VRL φ St w cs us → VRL Phi0 (Froz φ St H) w cs' us

theorem OutC.append {as as' bs bs' : List CV} (h : OutC φ St H w as as') (k : OutC φ St H w bs bs') : OutC φ St H w (as ++ bs) (as' ++ bs') := by
  obtain ⟨a1, a2, a3, a4⟩ := h
  obtain ⟨b1, b2, b3, b4⟩ := k
  refine ⟨by simp [a1, b1], by simp [a2, b2], by simp [pureCs_append, a3, b3], fun us hu => ?_⟩
  have e : us = us.take as.length ++ us.drop as.length := (List.take_append_drop _ _).symm
  have h1 := hu.take as.length
  have h2 := hu.drop as.length
  simp at h1 h2
  rw [e]
  exact (a4 _ h1).append (b4 _ h2)
theorem OutC.nil : OutC φ St H w [] [] := ⟨rfl, rfl, rfl, fun us hu => by cases hu; exact .nil⟩

theorem wrapV_flat {x : CV} {cs : List CV} (hl : cs.length = x.flat.length) (ho : cs.all CV.one = true) : (wrapV x cs).flat = cs := by
  unfold wrapV
  split
  · rfl
  · rename_i hx
    have : x.flat = [x] := by cases x <;> first | rfl | exact absurd rfl (hx _)
    rw [this] at hl
    match cs, hl with
    | [c], _ => simp at ho ⊢; exact flat_one ho

theorem exC_ok {ty : Ty} (hty : ty.Ok P) (R : Rel N φ St H w) : ∀ (n : Nat) (t : TypeId) (cs cs' : List CV), exC ty H n t cs = some cs' → OutC φ St H w cs cs' := by
  intro n
  induction n with
  | zero => intro t cs cs' h; simp [exC] at h
  | succ n ih =>
    intro t cs cs' h
    have fs_ok : ∀ (fs : List Field) (cs cs' : List CV), exFs ty (exC ty H n) fs cs = some cs' → OutC φ St H w cs cs' := by
      intro fs
      induction fs with
      | nil =>
        intro cs cs' h
        simp only [exFs] at h
        split at h <;> simp at h
        rename_i he; subst h
        have : cs = [] := by simpa using he
        subst this; exact .nil
      | cons f fs ihf =>
        intro cs cs' h
        simp only [exFs] at h
        split at h <;> (try (simp at h; done))
        rename_i j hj
        split at h <;> (try (simp at h; done))
        rename_i a b ha hb
        simp at h; subst h
        have := (ih _ _ _ ha).append (ihf _ _ hb)
        rwa [List.take_append_drop] at this
    have es_ok : ∀ (e : TypeId) (size m : Nat) (cs cs' : List CV), exEs (exC ty H n e) size m cs = some cs' → OutC φ St H w cs cs' := by
      intro e size m
      induction m with
      | zero =>
        intro cs cs' h
        simp only [exEs] at h
        split at h <;> simp at h
        rename_i he; subst h
        have : cs = [] := by simpa using he
        subst this; exact .nil
      | succ m ihm =>
        intro cs cs' h
        simp only [exEs] at h
        split at h <;> (try (simp at h; done))
        rename_i a b ha hb
        simp at h; subst h
        have := (ih _ _ _ ha).append (ihm _ _ hb)
        rwa [List.take_append_drop] at this
    have map_ok : ∀ (e : TypeId) (xs ys : List CV), mapO (fun x => (exC ty H n e x.flat).map (wrapV x)) xs = some ys →
        ys.length = xs.length ∧ pureCs ys = true ∧ (∀ k, (∀ x ∈ xs, x.flat.length = k) → ∀ y ∈ ys, y.flat.length = k) ∧ ∀ us, VRL φ St w (xs.flatMap CV.flat) us → VRL Phi0 (Froz φ St H) w (ys.flatMap CV.flat) us := by
      intro e xs
      induction xs with
      | nil => intro ys h; simp [mapO] at h; subst h; exact ⟨rfl, rfl, by simp, fun us hu => by cases hu; exact .nil⟩
      | cons x xs ihx =>
        intro ys h
        simp only [mapO] at h
        split at h <;> (try (simp at h; done))
        rename_i y hy
        split at h <;> (try (simp at h; done))
        rename_i ys' hys
        simp at h; subst h
        cases hex : exC ty H n e x.flat with
        | none => simp [hex] at hy
        | some cs1 =>
          simp [hex] at hy; subst hy
          obtain ⟨e1, e2, e3, e4⟩ := ih _ _ _ hex
          obtain ⟨g1, g2, g3, g4⟩ := ihx _ hys
          have hwf := wrapV_flat e1 e2
          refine ⟨by simp [g1], ?_, ?_, ?_⟩
          · simp only [pureCs, g2, Bool.and_true]
            have hp : pureCs (wrapV x cs1).flat = true := by rw [hwf]; exact e3
            unfold wrapV at hp ⊢
            split at hp
            · simpa [pureC, CV.flat] using hp
            · rename_i hx
              have : x.flat = [x] := by cases x <;> first | rfl | exact absurd rfl (hx _)
              rw [this] at e1
              match cs1, e1 with
              | [c], _ => simpa [pureCs] using e3
          · intro k hk y hy
            rcases List.mem_cons.1 hy with rfl | hy
            · rw [hwf, e1]; exact hk x (by simp)
            · exact g3 k (fun x hx => hk x (by simp [hx])) y hy
          · intro us hu
            simp only [List.flatMap_cons] at hu ⊢
            have hh : us = us.take x.flat.length ++ us.drop x.flat.length := (List.take_append_drop _ _).symm
            have h1 := hu.take x.flat.length
            have h2 := hu.drop x.flat.length
            simp at h1 h2
            rw [hh, hwf]
            exact (e4 _ h1).append (g4 _ h2)
    simp only [exC] at h
    split at h <;> (try (simp at h; done))
    rename_i i hi
    split at h
    · exact fs_ok _ _ _ h
    · split at h <;> (try (simp at h; done))
      exact es_ok _ _ _ _ _ h
    · rename_i e hd
      split at h <;> (try (simp at h; done))
      rename_i j c hj
      split at h <;> (try (simp at h; done))
      rename_i hstr
      split at h <;> (try (simp at h; done))
      rename_i xs hxs
      split at h <;> (try (simp at h; done))
      rename_i ys hys
      simp at h; subst h
      obtain ⟨g1, g2, g3, g4⟩ := map_ok _ _ _ hys
      refine ⟨rfl, rfl, by simp [pureCs, pureC, g2], fun us hu => ?_⟩
      cases hu with | cons _ v _ vs' hv hvs =>
      cases hvs
      obtain ⟨a, cap, vs, rfl, hcap, hvr, hat, hsz⟩ := src_at hty R hj (by simpa using hstr) hxs hv
      refine .cons _ _ _ _ ?_ .nil
      rw [← g1]
      refine .slice _ ys none false a cap vs ?_ (g4 _ hvr) (g3 _ hsz) (by omega) (by simp) trivial
      rcases hat with rfl | hat
      · left; simpa using g1
      · exact .inr hat
    · split at h <;> simp at h
      rename_i hp
      subst h
      simp only [Bool.and_eq_true] at hp
      exact ⟨rfl, hp.2, hp.1, fun us hu => hu.pure Froz.of hp.1⟩

theorem exV_ok {ty : Ty} (hty : ty.Ok P) (R : Rel N φ St H w) {t : TypeId} {v v' : CV} (h : exV ty H t v = some v') {u : Value} (hu : VR φ St w v u) : VR Phi0 (Froz φ St H) w v' u ∧ pureC v' = true := by
  have hj : v ≠ .junk := by rintro rfl; simp [exV] at h
  have h' : (exC ty H 12 t v.flat).map (wrapV v) = some v' := by cases v <;> first | exact h | exact absurd rfl hj
  cases hx : exC ty H 12 t v.flat with
  | none => simp [hx] at h'
  | some cs =>
    simp [hx] at h'; subst h'
    obtain ⟨e1, e2, e3, e4⟩ := exC_ok hty R _ _ _ _ hx
    have hf := e4 _ (hu.flat hj)
    cases v with
    | agg ws =>
      cases hu with | agg _ us hus =>
      simp only [wrapV, pureC]
      exact ⟨.agg _ _ (by simpa [Value.cells] using hf), e3⟩
    | junk => exact absurd rfl hj
    | _ =>
      simp only [CV.flat] at e1
      match cs, e1 with
      | [c], _ =>
        simp only [wrapV, List.headD_cons]
        simp [pureCs] at e3
        refine ⟨?_, e3⟩
        cases hu <;> (simp only [Value.cells] at hf; cases hf with | cons _ _ _ _ h1 _ => exact h1)

theorem exVs_ok {ty : Ty} (hty : ty.Ok P) (R : Rel N φ St H w) : ∀ {ts : List TypeId} {vs vs' : List CV}, exVs ty H ts vs = some vs' → ∀ us, VRL φ St w vs us → VRL Phi0 (Froz φ St H) w vs' us ∧ pureCs vs' = true
  | [], [], vs', h, us, hu => by simp [exVs] at h; subst h; cases hu; exact ⟨.nil, rfl⟩
  | [], _ :: _, vs', h, us, hu => by simp [exVs] at h
  | _ :: _, [], vs', h, us, hu => by simp [exVs] at h
  | t :: ts, v :: vs, vs', h, us, hu => by
    simp only [exVs] at h
    split at h <;> (try (simp at h; done))
    rename_i a b ha hb
    simp at h; subst h
    cases hu with | cons _ u _ us h1 h2 =>
    obtain ⟨e1, e2⟩ := exV_ok hty R ha h1
    obtain ⟨f1, f2⟩ := exVs_ok hty R hb us h2
    exact ⟨.cons _ _ _ _ e1 f1, by simp [pureCs, e2, f2]⟩
end
end Go.Eng
