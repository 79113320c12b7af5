/- What answers of operations hang on. -/
import Derived.Test.YtjfiojmfcpeaoaaEH1
namespace Go.Eng
set_option linter.unusedVariables false

section
variable {ty : Ty}

theorem still_same {o : Op} (hs : stillOp o = true) (h h' : Heap) (n : Nat) (ρ : Operand → CV) : opQ ty h n ρ o = opQ ty h' n ρ o := by
  cases o <;> first | rfl | (simp [stillOp] at hs; done)

theorem called_loud {ρ : Operand → CV} {o : Op} {x : Called} (h : calledC ρ o = some x) : loudOp o = true := by
  cases o <;> simp [calledC] at h <;> try rfl
  rename_i cl
  simp only [loudOp]
  split <;> first | rfl | simp_all

mutual
theorem CV.same_eq : ∀ (a b : CV), a.same b = true → a = b
  | .bool a, b, h => by cases b <;> simp [CV.same] at h; subst h; rfl
  | .int j a, b, h => by cases b <;> simp [CV.same] at h; obtain ⟨rfl, rfl⟩ := h; rfl
  | .str a, b, h => by cases b <;> simp [CV.same] at h; subst h; rfl
  | .nilptr, b, h => by cases b <;> simp [CV.same] at h; rfl
  | .ptr a c, b, h => by cases b <;> simp [CV.same] at h; obtain ⟨rfl, rfl⟩ := h; rfl
  | .rop a, b, h => by cases b <;> simp [CV.same] at h; rw [CV.same_eq _ _ h]
  | .slice e xs t f, b, h => by cases b <;> simp [CV.same] at h; obtain ⟨⟨⟨rfl, rfl⟩, rfl⟩, h⟩ := h; rw [CV.sames_eq _ _ h]
  | .sref a c d e f g, b, h => by cases b <;> simp [CV.same] at h; obtain ⟨⟨⟨⟨⟨rfl, rfl⟩, rfl⟩, rfl⟩, rfl⟩, rfl⟩ := h; rfl
  | .map a, b, h => by cases b <;> simp [CV.same] at h; subst h; rfl
  | .nilmap, b, h => by cases b <;> simp [CV.same] at h; rfl
  | .func f xs ys, b, h => by cases b <;> simp [CV.same] at h; obtain ⟨⟨rfl, h1⟩, h2⟩ := h; rw [CV.sames_eq _ _ h1, CV.sames_eq _ _ h2]
  | .yield a, b, h => by cases b <;> simp [CV.same] at h; subst h; rfl
  | .nilfunc, b, h => by cases b <;> simp [CV.same] at h; rfl
  | .iface t a, b, h => by cases b <;> simp [CV.same] at h; obtain ⟨rfl, h⟩ := h; rw [CV.same_eq _ _ h]
  | .niliface, b, h => by cases b <;> simp [CV.same] at h; rfl
  | .agg a, b, h => by cases b <;> simp [CV.same] at h; rw [CV.sames_eq _ _ h]
  | .tuple a, b, h => by cases b <;> simp [CV.same] at h; rw [CV.sames_eq _ _ h]
  | .junk, b, h => by simp [CV.same] at h
theorem CV.sames_eq : ∀ (a b : List CV), CV.sames a b = true → a = b
  | [], b, h => by cases b <;> simp [CV.sames] at h; rfl
  | x :: xs, b, h => by
    cases b <;> simp [CV.sames] at h
    rw [CV.same_eq _ _ h.1, CV.sames_eq _ _ h.2]
end

theorem convQ_none {h : Heap} {n : Nat} {s t : TypeId} {x v : CV} (hq : convQ ty h n s t x = some (v, none)) (m : Nat) : convQ ty h m s t x = some (v, none) := by
  unfold convQ at hq ⊢
  split at hq <;> (try (simp at hq; done))
  split at hq <;> (try (simp at hq; done)) <;> first | exact hq | skip
  split at hq <;> (try (simp at hq; done))
  split at hq <;> simp at hq

theorem convQ_alloc {h : Heap} {n : Nat} {s t : TypeId} {x v : CV} {b : HObj} (hq : convQ ty h n s t x = some (v, some b)) (h' : Heap) (m : Nat) : ∃ v', convQ ty h' m s t x = some (v', some b) ∧ (m = n → v' = v) := by
  unfold convQ at hq ⊢
  split at hq <;> (try (simp at hq; done))
  split at hq <;> (try (simp at hq; done))
  · split at hq <;> (try (simp at hq; done))
    split at hq <;> (try (simp at hq; done))
    rename_i hk
    simp at hq; obtain ⟨rfl, rfl⟩ := hq
    (try simp only [hk])
    exact ⟨_, rfl, fun e => by rw [e]⟩
  · split at hq <;> (try (simp at hq; done))
    split at hq <;> (try (simp at hq; done))
    split at hq <;> (try (simp at hq; done))
  · split at hq <;> (try (simp at hq; done))
    split at hq <;> (try (simp at hq; done))
    split at hq <;> (try (simp at hq; done))
    split at hq <;> (try (simp at hq; done))

theorem Q_none {h : Heap} {n : Nat} {ρ : Operand → CV} {o : Op} {v : CV} (hq : opQ ty h n ρ o = some (v, none)) (m : Nat) : opQ ty h m ρ o = some (v, none) := by
  cases o <;> simp only [opQ] at hq ⊢ <;> first | exact hq | exact convQ_none hq m | skip
  case alloc t => cases ht : ty t <;> simp [ht] at hq
  case box t x => unfold boxC at hq; split at hq <;> simp at hq
  case buildSlice t l p => obtain ⟨b, _, hb⟩ := mkC_some hq; simp at hb
  case makeMap t r =>
    unfold makeMapC at hq
    split at hq <;> (try (simp at hq; done))
    split at hq <;> (try (simp at hq; done))
    (try (split at hq <;> simp at hq))
  case makeSlice t l k => obtain ⟨b, _, hb⟩ := mkC_some hq; simp at hb

theorem Q_alloc {h : Heap} {n : Nat} {ρ : Operand → CV} {o : Op} {v : CV} {b : HObj} (hq : opQ ty h n ρ o = some (v, some b)) (h' : Heap) (m : Nat) : ∃ v', opQ ty h' m ρ o = some (v', some b) ∧ (m = n → v' = v) := by
  cases o <;> simp only [opQ] at hq ⊢ <;> (try (exact convQ_alloc hq h' m)) <;> (try (simp at hq; done)) <;> (try (obtain ⟨_, hb⟩ := rdC_some hq; simp at hb; done))
  case alloc t =>
    cases ht : ty t with
    | none => simp [ht] at hq
    | some j => simp [ht] at hq; obtain ⟨rfl, rfl⟩ := hq; exact ⟨_, rfl, fun e => by rw [e]⟩
  case box t x =>
    unfold boxC at hq ⊢
    split at hq <;> simp at hq
    obtain ⟨rfl, rfl⟩ := hq
    exact ⟨_, rfl, fun e => by rw [e]⟩
  case buildSlice t l p =>
    obtain ⟨b', hq, hb⟩ := mkC_some hq
    simp at hb; subst hb
    unfold buildSliceC at hq ⊢
    repeat' (split at hq <;> (try (simp at hq; done)))
    all_goals
      simp at hq; obtain ⟨rfl, rfl⟩ := hq
      simp [mkC, *]
  case makeMap t r =>
    unfold makeMapC at hq ⊢
    split at hq <;> (try (simp at hq; done))
    · simp at hq; obtain ⟨rfl, rfl⟩ := hq; exact ⟨_, rfl, fun e => by rw [e]⟩
    · split at hq <;> (try (simp at hq; done))
      split at hq <;> simp at hq
      rename_i hm
      obtain ⟨rfl, rfl⟩ := hq
      (try simp only [hm])
      exact ⟨_, rfl, fun e => by rw [e]⟩
  case makeSlice t l k =>
    obtain ⟨b', hq, hb⟩ := mkC_some hq
    simp at hb; subst hb
    unfold makeSliceC at hq ⊢
    repeat' (split at hq <;> (try (simp at hq; done)))
    all_goals
      rename_i hcond
      simp at hq; obtain ⟨rfl, rfl⟩ := hq
      (try rw [if_pos hcond])
      exact ⟨_, rfl, fun e => by rw [e]⟩
  case makeFunc f a b => unfold makeFuncC at hq; cases f <;> simp at hq

theorem opQ_congr {h : Heap} {n : Nat} {ρ ρ' : Operand → CV} {o : Op} (hρ : ∀ x ∈ o.operands, ρ x = ρ' x) : opQ ty h n ρ o = opQ ty h n ρ' o := by
  have hl : ∀ xs : List Operand, (∀ x ∈ xs, ρ x = ρ' x) → xs.map ρ = xs.map ρ' := fun xs h => List.map_congr_left h
  have hp : ∀ ps : Array (Nat × Operand), (∀ x ∈ (ps.toList.map (·.2)), ρ x = ρ' x) → (ps.toList.map fun p => (p.1, ρ p.2)) = ps.toList.map fun p => (p.1, ρ' p.2) := fun ps h =>
    List.map_congr_left fun p hp => by rw [h p.2 (List.mem_map.2 ⟨p, hp, rfl⟩)]
  cases o <;> simp only [Op.operands] at hρ <;> simp only [opQ]
  case call cl =>
    have ha : ∀ x ∈ cl.args.toList, ρ x = ρ' x := fun x hx => hρ x (by simp [Call.operands]; exact .inr (by simpa using hx))
    unfold callQ
    split
    · split
      · rename_i x t hx ht; rw [ha x (by simp [hx])]
      · rfl
    · split
      · rename_i x t hx ht; rw [ha x (by simp [hx])]
      · rfl
    · split
      · rename_i x xs hx; rw [ha x (by simp [hx]), hl xs fun y hy => ha y (by simp [hx, hy])]
      · rfl
    · split
      · rename_i x xs hx; rw [ha x (by simp [hx]), hl xs fun y hy => ha y (by simp [hx, hy])]
      · rfl
    · rfl
  case build t ps => rw [hp ps fun x hx => hρ x (by simpa using hx)]
  case buildSlice t n ps => rw [hp ps fun x hx => hρ x (by simpa using hx)]
  case makeFunc fn first captured =>
    rw [hl first.toList fun x hx => hρ x (by simp; exact .inl (by simpa using hx)), hl captured.toList fun x hx => hρ x (by simp; exact .inr (by simpa using hx))]
  case makeMap t r => cases r <;> simp_all
  case slice t x lo hi mx => cases lo <;> cases hi <;> cases mx <;> simp_all
  all_goals (first | rfl | (simp_all; done))

theorem rdC_map {x y : Option CV} (h : ∀ c, x = some c → y = some c) {r : CV × Option HObj} (hr : rdC x = some r) : rdC y = some r := by
  obtain ⟨c, o⟩ := r
  obtain ⟨h1, rfl⟩ := rdC_some hr
  rw [h c h1]; rfl

theorem opQ_mono {h H : Heap} (hs : Sub h H) {n : Nat} {ρ : Operand → CV} {o : Op} {r : CV × Option HObj} (hq : opQ ty h n ρ o = some r) : opQ ty H n ρ o = some r := by
  cases o <;> simp only [opQ] at hq ⊢ <;> first
    | exact hq
    | exact rdC_map (fun _ => loadC_mono hs) hq
    | exact rdC_map (fun _ => nilCheckC_mono hs) hq
    | exact rdC_map (fun _ => binC_mono hs) hq
    | exact convQ_mono hs hq
    | exact rdC_map (fun _ => sapC_mono hs) hq
    | exact rdC_map (fun _ => sliceC_mono hs) hq
    | exact rdC_map (fun _ => fieldAddrC_mono hs) hq
    | exact rdC_map (fun _ => indexAddrC_mono hs) hq
    | exact rdC_map (fun _ => lookupC_mono hs) hq
    | exact rdC_map (fun _ => callQ_mono hs) hq
end
end Go.Eng
