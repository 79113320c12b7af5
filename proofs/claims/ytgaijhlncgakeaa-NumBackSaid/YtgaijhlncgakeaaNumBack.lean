/- NumBack answers true. -/
import Derived.Test.YtgaijhlncgakeaaTake
import Derived.Test.YtgaijhlncgakeaaSame
import Derived.Test.YtgaijhlncgakeaaSameNumbers
namespace Go.Proofs.Ytgaijhlncgakeaa
open Go.Eng
set_option linter.unusedVariables false
set_option linter.unusedSimpArgs false

theorem putB_isB (zs : List (Int × Int)) : isB (putB zs) := by
  intro x hx
  unfold putB digs at hx
  simp only [List.mem_flatMap, List.mem_map] at hx
  obtain ⟨p, _, j, _, rfl⟩ := hx
  omega
theorem isB_nil : isB [] := fun x hx => by simp at hx

theorem numBack_any (l b sizes : List Int) (hl : l.length < 9223372036854775807) (hs : sizes.length < 9223372036854775807) (hr : ∀ n ∈ l, 0 ≤ n ∧ n < 18446744073709551616) (hb : isB b) : law01_NumBack (l, (b, sizes)) = some true := by
  unfold law01_NumBack
  have ha : law01_alive () = some true := rfl
  simp only [Dat.ofN_eq, Dat.len_eq]
  rw [ha, Dat.bind_some]
  cases h1 : Dat.igt (l.length : Int) 100 with
  | true => rfl
  | false =>
  cases h2 : Dat.igt (b.length : Int) 5000 with
  | true => rfl
  | false =>
  cases h3 : Dat.igt (sizes.length : Int) 100 with
  | true => rfl
  | false =>
  simp only [Dat.pick_ft, cond_false, Dat.bnot_eq, Bool.not_true, cond_true, Dat.pick_tt, Dat.pick_tf]
  have hput : isB (putS l sizes).1 := by
    unfold putS
    split
    · exact isB_nil
    · split
      · exact isB_nil
      · split
        · exact putB_isB _
        · exact isB_nil
  rw [num_Put_spec l sizes hl hs hr, Dat.bind_some, num_Take_spec _ sizes hs hput, Dat.bind_some, num_Take_spec b sizes hs hb, Dat.bind_some]
  have hn : (takeS b sizes).1.length < 9223372036854775807 := by
    unfold takeS
    split
    · split
      · simp [parts]; exact hs
      · simp
    · simp
  have hnr : ∀ n ∈ (takeS b sizes).1, 0 ≤ n ∧ n < 18446744073709551616 := by
    unfold takeS
    split
    · rename_i hok
      split
      · rename_i he
        obtain ⟨hlen, hall, hsum⟩ := ok_num hok
        have hall0 : ∀ s ∈ sizes, 0 ≤ s := fun s h => by have := hall s h; omega
        intro n hn
        simp only [parts, List.mem_map, List.mem_range] at hn
        obtain ⟨p, ⟨i, hi, rfl⟩, rfl⟩ := hn
        have hbp : isB (part b sizes i) := isB_drop (isB_take hb _) _
        have hv := val_bounds hbp
        have hpl := part_len hall0 he hi
        have hz := hall sizes[i] (List.getElem_mem hi)
        have hle : (part b sizes i).length ≤ 8 := by omega
        have hpw : (256 : Int) ^ (part b sizes i).length ≤ 18446744073709551616 := by
          generalize (part b sizes i).length = q at hle
          have : q = 0 ∨ q = 1 ∨ q = 2 ∨ q = 3 ∨ q = 4 ∨ q = 5 ∨ q = 6 ∨ q = 7 ∨ q = 8 := by omega
          rcases this with rfl | rfl | rfl | rfl | rfl | rfl | rfl | rfl | rfl <;> decide
        omega
      · simp
    · simp
  rw [num_Put_spec _ sizes hn hs hnr, Dat.bind_some]
  have first : (putS l sizes).2 = 0 → takeS (putS l sizes).1 sizes = (l, 0) := by
    intro h
    unfold putS at h
    split at h
    · simp at h
    · rename_i hok
      split at h
      · simp at h
      · rename_i hlen
        split at h
        · rename_i hf
          have hok' : okS 1 8 sizes = true := by simpa using hok
          have he : l.length = sizes.length := by simpa using hlen
          have e : putS l sizes = (putB (l.zip sizes), 0) := by unfold putS; simp [hok', he, hf]
          rw [e]
          exact back1 hok' he hf fun n hn => (hr n hn).1
        · simp at h
  have firstN : (putS l sizes).2 ≠ 0 → (putS l sizes).1 = [] := by
    intro h
    unfold putS at h ⊢
    split
    · rfl
    · split
      · rfl
      · split
        · rename_i h1 h2 h3; simp [h1, h2, h3] at h
        · rfl
  have second : (takeS b sizes).2 = 0 → putS (takeS b sizes).1 sizes = (b, 0) := by
    intro h
    unfold takeS at h ⊢
    split at h
    · rename_i hok
      split at h
      · rename_i he
        simp only [hok, he, if_true]
        exact back2 hok he hb
      · simp at h
    · simp at h
  have secondN : (takeS b sizes).2 ≠ 0 → (takeS b sizes).1 = [] := by
    intro h
    unfold takeS at h ⊢
    split
    · split
      · rename_i h1 h2; simp [h1, h2] at h
      · rfl
    · rfl
  generalize hP : putS l sizes = P at *
  generalize hT : takeS b sizes = T at *
  have n0 : ∀ {n : Int}, ¬ n = 0 → (n == 0) = false ∧ (n != 0) = true := fun h => by simp [h]
  by_cases h4 : P.2 = 0
  · have f := first h4
    rw [f]
    by_cases h5 : T.2 = 0
    · have s := second h5
      rw [s]
      simp [h4, h5, Dat.ieq, Dat.ine, ref01_SameNumbers_self l hl, ref01_Same_spec]
    · have s := secondN h5
      simp [h4, (n0 h5).1, (n0 h5).2, s, Dat.ieq, Dat.ine, ref01_SameNumbers_self l hl]
  · have f := firstN h4
    by_cases h5 : T.2 = 0
    · have s := second h5
      rw [s]
      simp [(n0 h4).1, (n0 h4).2, h5, f, Dat.ieq, Dat.ine, Dat.igt, ref01_Same_spec]
    · have s := secondN h5
      simp [(n0 h4).1, (n0 h4).2, (n0 h5).1, (n0 h5).2, s, f, Dat.ieq, Dat.ine, Dat.igt]

theorem law01_NumBack_true (d : Els p_law01_NumBack.args) (hf : Fits p_law01_NumBack.args d) : law01_NumBack d = some true := by
  obtain ⟨l, b, sizes⟩ := d
  obtain ⟨⟨h1, h2⟩, ⟨h3, h4⟩, h5, h6⟩ := hf
  rw [maxLen_eq] at h1 h5
  replace h1 : l.length ≤ 9223372036854775807 := h1
  replace h5 : sizes.length ≤ 9223372036854775807 := h5
  have hr : ∀ n ∈ l, 0 ≤ n ∧ n < 18446744073709551616 := fun n hn => fit_u64 (h2 n hn)
  have hb : isB b := fun n hn => fit_u8 (h4 n hn)
  by_cases hl : l.length < 9223372036854775807
  · by_cases hs : sizes.length < 9223372036854775807
    · exact numBack_any l b sizes hl hs hr hb
    · unfold law01_NumBack
      have ha : law01_alive () = some true := rfl
      have e2 : Dat.igt (Dat.ofN (Dat.len sizes)) 100 = true := by simp [Dat.igt]; omega
      rw [ha, Dat.bind_some]
      simp only [e2, Dat.pick_ft, cond_true]
      cases Dat.igt (Dat.ofN (Dat.len l)) 100 <;> cases Dat.igt (Dat.ofN (Dat.len b)) 5000 <;> rfl
  · unfold law01_NumBack
    have ha : law01_alive () = some true := rfl
    have e2 : Dat.igt (Dat.ofN (Dat.len l)) 100 = true := by simp [Dat.igt]; omega
    rw [ha, Dat.bind_some]
    simp only [e2, cond_true]
end Go.Proofs.Ytgaijhlncgakeaa
