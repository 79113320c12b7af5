/- What is read of a heap is read of a greater one. -/
import Derived.Test.YtjfiojmfcpeaoaaEE9
namespace Go.Eng
set_option linter.unusedVariables false

def Sub (h H : Heap) : Prop := ∀ (b : Nat) (o : HObj), h[b]? = some o → H[b]? = some o

theorem Sub.refl (h : Heap) : Sub h h := fun _ _ x => x
theorem Sub.trans {a b c : Heap} (x : Sub a b) (y : Sub b c) : Sub a c := fun i o h => y i o (x i o h)
theorem Sub.append (h x : Heap) : Sub h (h ++ x) := fun b o hb => by
  rw [List.getElem?_append_left (List.getElem?_eq_some_iff.1 hb).1]; exact hb

section
variable {h H : Heap} (s : Sub h H)
include s
theorem live_mono {b : Nat} (hl : live h b = true) : live H b = true := by
  unfold live at hl ⊢
  split at hl <;> (try (simp at hl; done))
  rename_i o h1 h2
  rw [s b o h2]
  cases o <;> first | rfl | exact (h1 rfl).elim

theorem fieldAddrC_mono {ty : Ty} {t : TypeId} {x c : CV} {f : Nat} (hc : fieldAddrC ty h t x f = some c) : fieldAddrC ty H t x f = some c := by
  unfold fieldAddrC at hc ⊢
  cases x <;> try exact hc
  rename_i b off
  dsimp only at hc ⊢
  cases hl : live h b with
  | false => simp [hl] at hc; (repeat' split at hc) <;> simp_all
  | true => simp only [hl] at hc; simp only [live_mono s hl]; exact hc

theorem indexAddrC_mono {ty : Ty} {t : TypeId} {x i c : CV} (hc : indexAddrC ty h t x i = some c) : indexAddrC ty H t x i = some c := by
  unfold indexAddrC at hc ⊢
  cases x <;> try exact hc
  · rename_i b off
    dsimp only at hc ⊢
    cases hl : live h b with
    | false => simp [hl] at hc; (repeat' split at hc) <;> simp_all
    | true => simp only [hl] at hc; simp only [live_mono s hl]; exact hc
  · rename_i e b off len cap ex
    dsimp only at hc ⊢
    cases hl : live h b with
    | false => simp [hl] at hc; (repeat' split at hc) <;> simp_all
    | true => simp only [hl] at hc; simp only [live_mono s hl]; exact hc

theorem loadC_mono {ty : Ty} {t : TypeId} {x c : CV} (hc : loadC ty h t x = some c) : loadC ty H t x = some c := by
  unfold loadC at hc ⊢
  cases x <;> try exact hc
  rename_i b off
  cases hb : h[b]? with
  | none => simp [hb] at hc; split at hc <;> simp_all
  | some o => simp only [hb] at hc; simp only [s b o hb]; exact hc

theorem nilCheckC_mono {x c : CV} (hc : nilCheckC h x = some c) : nilCheckC H x = some c := by
  unfold nilCheckC at hc ⊢
  cases x <;> try exact hc
  rename_i b off
  cases hl : live h b with
  | false => simp [hl] at hc
  | true => simpa [live_mono s hl, hl] using hc

theorem cmpNil_mono {d : TypeDesc} {yn : Bool} {a b : CV} {r : Bool} (hc : cmpNil h d yn a b = some r) : cmpNil H d yn a b = some r := by
  unfold cmpNil at hc ⊢
  split at hc
  all_goals first
    | exact hc
    | (simp at hc; simp [live_mono s hc.1, hc.2]; done)
    | (simp at hc; simp [hc.1.1, live_mono s hc.1.2, hc.2]; done)
    | (simp at hc; done)

theorem eqC_mono {ty : Ty} {t : TypeId} {x y : Bool} {a b : CV} {r : Bool} (hc : eqC ty h t x y a b = some r) : eqC ty H t x y a b = some r := by
  unfold eqC at hc ⊢
  split at hc
  · simp at hc
  · split at hc
    all_goals first
      | exact hc
      | exact cmpNil_mono s hc

theorem binC_mono {ty : Ty} {op : BinOp} {t : TypeId} {x y : Bool} {a b c : CV} (hc : binC ty h op t x y a b = some c) : binC ty H op t x y a b = some c := by
  unfold binC at hc ⊢
  split at hc
  · exact hc
  · exact hc
  · split at hc
    · cases hr : eqC ty h t x y a b with
      | none => simp [hr] at hc
      | some r => rw [hr] at hc; rw [eqC_mono s hr]; exact hc
    · cases hr : eqC ty h t x y a b with
      | none => simp [hr] at hc
      | some r => rw [hr] at hc; rw [eqC_mono s hr]; exact hc
    · exact hc

theorem srcE_mono {j : TI} {x : CV} {ys : List CV} (hc : srcE h j x = some ys) : srcE H j x = some ys := by
  unfold srcE at hc ⊢
  cases x <;> try exact hc
  rename_i e b off len cap ex
  cases hb : h[b]? with
  | none => simp [hb] at hc
  | some o => simp only [hb] at hc; simp only [s b o hb]; exact hc

theorem convQ_mono {ty : Ty} {n : Nat} {t u : TypeId} {x : CV} {r : CV × Option HObj} (hc : convQ ty h n t u x = some r) : convQ ty H n t u x = some r := by
  unfold convQ at hc ⊢
  split at hc <;> (try (simp at hc; done))
  split at hc
  all_goals first
    | exact hc
    | (split at hc <;> (try (simp at hc; done))
       split at hc <;> (try (simp at hc; done))
       split at hc <;> (try (simp at hc; done))
       split at hc <;> (try (simp at hc; done))
       rename_i xs hxs
       simp only [srcE_mono s hxs]
       exact hc)
    | (simp only [Option.ite_none_right_eq_some] at hc
       rw [if_pos ⟨hc.1.1, live_mono s hc.1.2⟩]
       exact hc.2)
    | (simp at hc; done)

theorem sliceC_mono {ty : Ty} {t : TypeId} {x c : CV} {lo hi mx : Option CV} (hc : sliceC ty h t x lo hi mx = some c) : sliceC ty H t x lo hi mx = some c := by
  unfold sliceC at hc ⊢
  cases ht : ty t with
  | none => simp [ht] at hc
  | some i =>
    simp only [ht] at hc ⊢
    split at hc
    · exact hc
    · exact hc
    · rename_i e esz b off len cap ex hd
      cases hl : live h b with
      | false => simp [hl] at hc; split at hc <;> simp_all
      | true => simp only [hl] at hc; simp only [live_mono s hl]; exact hc
    · rename_i n e b off hd
      cases hb : h[b]? with
      | none => simp [hb] at hc
      | some o => simp only [hb] at hc; simp only [s b o hb]; exact hc
    · exact hc
    · simp at hc

theorem lenC_mono {ty : Ty} {t : TypeId} {x c : CV} (hc : lenC ty h t x = some c) : lenC ty H t x = some c := by
  unfold lenC at hc ⊢
  cases ht : ty t with
  | none => simp [ht] at hc
  | some i =>
    simp only [ht] at hc ⊢
    split at hc
    all_goals first
      | exact hc
      | (simp at hc; simp [live_mono s hc.1, hc.2]; done)
      | (rename_i b len cap ex hd
         cases hl : live h b with
         | false => simp [hl] at hc
         | true => simp only [hl] at hc; simp only [live_mono s hl]; exact hc)
      | (rename_i b hd
         cases hb : h[b]? with
         | none => simp [hb] at hc
         | some o => simp only [hb] at hc; simp only [s b o hb]; exact hc)
      | (simp at hc; done)

theorem capC_mono {ty : Ty} {t : TypeId} {x c : CV} (hc : capC ty h t x = some c) : capC ty H t x = some c := by
  unfold capC at hc ⊢
  cases ht : ty t with
  | none => simp [ht] at hc
  | some i =>
    simp only [ht] at hc ⊢
    split at hc
    all_goals first
      | exact hc
      | (simp at hc; simp [live_mono s hc.1, hc.2]; done)
      | (rename_i b len cap hd
         cases hl : live h b with
         | false => simp [hl] at hc
         | true => simp only [hl] at hc; simp only [live_mono s hl]; exact hc)
      | (simp at hc; done)
end
end Go.Eng
