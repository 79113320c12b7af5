/- SlotBack answers true. -/
import Derived.Test.YthhjkmefpmmleaaSlot
namespace Go.Proofs.Ythhjkmefpmmleaa
open Go.Eng
set_option linter.unusedVariables false
set_option linter.unusedSimpArgs false
theorem str_inj : ∀ {a b : List Int}, isB a → isB b → Dat.str a = Dat.str b → a = b
 | [], [], _, _, _ => rfl
 | [], b :: ys, _, _, h => by simp [Dat.str] at h
 | a :: xs, [], _, _, h => by simp [Dat.str] at h
 | a :: xs, b :: ys, ha, hb, h => by
  simp only [Dat.str, List.map_cons, List.cons.injEq] at h
  have h1 := ha a (by simp)
  have h2 := hb b (by simp)
  have e : a = b := by
   have := congrArg UInt8.toNat h.1
   simp only [UInt8.toNat_ofNat'] at this
   omega
  rw [e, str_inj (fun x hx => ha x (by simp [hx])) (fun x hx => hb x (by simp [hx])) h.2]
theorem zeros_isB (n : Nat) : isB (List.replicate n 0) := by intro x hx; have := List.eq_of_mem_replicate hx; omega
theorem digs_isB4 (n : Int) (m : Nat) : isB (digs n m) := by
 intro x hx
 obtain ⟨j, _, rfl⟩ := List.mem_map.1 hx
 omega
theorem slotW_parts {i f : Int} {d : List Int} : part3 (slotW i f d) = (digs (i + 1) 4, digs f 4, d) := by
 have h1 := digs_len (i + 1) 4
 have h2 := digs_len f 4
 unfold part3 slotW
 rw [List.append_assoc]
 have e1 : (digs (i + 1) 4 ++ (digs f 4 ++ d)).take 4 = digs (i + 1) 4 := by
  rw [List.take_append_of_le_length (by omega), List.take_of_length_le (by omega)]
 have e2 : ((digs (i + 1) 4 ++ (digs f 4 ++ d)).take 8).drop 4 = digs f 4 := by
  rw [List.take_append, h1, List.take_of_length_le (by omega), List.drop_append, h1, List.drop_of_length_le (by omega)]
  simp only [List.nil_append, Nat.sub_self, List.drop_zero]
  rw [List.take_append_of_le_length (by omega), List.take_of_length_le (by omega)]
 have e3 : (digs (i + 1) 4 ++ (digs f 4 ++ d)).drop 8 = d := by
  rw [List.drop_append, h1, List.drop_of_length_le (by omega), List.drop_append, h2, List.drop_of_length_le (by omega)]
  simp
 rw [e1, e2, e3]
theorem read_write {B S H W i f : Int} {d : List Int} (h : checkS B S H W i f d = 0) (hd : isB d) : readS B S H W (slotW i f d) = ((i, f, d, ()), true, 0) := by
 obtain ⟨hs, i0, i1, f0, f1, hl⟩ := check_ok h
 obtain ⟨l1, l2, l3, l4, l5, l6⟩ := lvl_iff.1 (slots_lvl hs)
 have hp := pow2_64 l5
 have hlen : ((slotW i f d).length : Int) = 8 + S := by
  unfold slotW
  simp only [List.length_append, digs_len]; omega
 have h4 : (256 : Int) ^ 4 = 4294967296 := by decide
 have v1 : val (digs (i + 1) 4) = i + 1 := val_digs (by omega) (by rw [h4]; omega)
 have v2 : val (digs f 4) = f := val_digs (by omega) (by rw [h4]; omega)
 have hB : isB (slotW i f d) := by
  intro x hx
  unfold slotW at hx
  rcases List.mem_append.1 hx with hx | hx
  ·rcases List.mem_append.1 hx with hx | hx
   ·exact digs_isB4 _ _ x hx
   ·exact digs_isB4 _ _ x hx
  ·exact hd x hx
 have hz : ¬ Dat.str (slotW i f d) = Dat.str (List.replicate (8 + S).toNat 0) := by
  intro e
  have e2 := str_inj hB (zeros_isB _) e
  have e3 := congrArg (fun l => val (part3 l).1) e2
  simp only [slotW_parts, v1] at e3
  have e4 : (part3 (List.replicate (8 + S).toNat (0 : Int))).1 = [0, 0, 0, 0] := by
   simp only [part3, List.take_replicate]
   have : min 4 (8 + S).toNat = 4 := by omega
   rw [this]; rfl
  rw [e4] at e3
  have e5 : val [0, 0, 0, 0] = 0 := by decide
  omega
 unfold readS
 rw [if_pos hs, if_pos hlen, if_neg hz, slotW_parts]
 simp only
 have e : i + 1 - 1 = i := by omega
 rw [v1, v2, e, if_pos h]
theorem write_read {B S H W : Int} {s : List Int} (hB : isB s) {b : Blk} (h : readS B S H W s = (b, true, 0)) : writeS B S H W b.1 b.2.1 b.2.2.1 = (s, 0) := by
 unfold readS at h
 split at h
 ·split at h
  ·rename_i hs hl
   split at h
   ·simp at h
   ·split at h
    ·rename_i hc
     simp only [Prod.mk.injEq, and_true] at h
     subst h
     simp only
     unfold writeS
     rw [if_pos hc]
     have hp1 : (part3 s).1.length = 4 := by
      obtain ⟨hs, _⟩ := check_ok hc
      obtain ⟨l1, l2, l3, l4, l5, l6⟩ := lvl_iff.1 (slots_lvl hs)
      simp only [part3, List.length_take]; omega
     have hp2 : (part3 s).2.1.length = 4 := by
      obtain ⟨hs, _⟩ := check_ok hc
      obtain ⟨l1, l2, l3, l4, l5, l6⟩ := lvl_iff.1 (slots_lvl hs)
      simp only [part3, List.length_take, List.length_drop]; omega
     have hb1 : isB (part3 s).1 := isB_take hB _
     have hb2 : isB (part3 s).2.1 := isB_drop (isB_take hB _) _
     have d1 := digs_val hb1
     have d2 := digs_val hb2
     rw [hp1] at d1
     rw [hp2] at d2
     have e : val (part3 s).1 - 1 + 1 = val (part3 s).1 := by omega
     unfold slotW
     rw [e, d1, d2]
     have : s = s.take 4 ++ (s.take 8).drop 4 ++ s.drop 8 := by
      have h1 : s.take 8 = (s.take 8).take 4 ++ (s.take 8).drop 4 := (List.take_append_drop 4 _).symm
      have h2 : (s.take 8).take 4 = s.take 4 := by rw [List.take_take]; rfl
      rw [h2] at h1
      rw [← h1, List.take_append_drop]
     rw [show (part3 s).1 ++ (part3 s).2.1 ++ (part3 s).2.2 = s from this.symm]
    ·simp at h
  ·simp at h
 ·simp at h
theorem read_cases (B S H W : Int) (s : List Int) : (∃ e : Int, (e = 8 ∨ e = 10) ∧ readS B S H W s = (noB, false, e)) ∨ (readS B S H W s = (noB, false, 0) ∧ (slotsS B S H W).2 = 0 ∧ Dat.str s = Dat.str (List.replicate (8 + S).toNat 0)) ∨ ∃ b : Blk, readS B S H W s = (b, true, 0) := by
 unfold readS
 split
 ·rename_i hs
  split
  ·split
   ·rename_i hz; exact .inr (.inl ⟨rfl, hs, hz⟩)
   ·split
    ·exact .inr (.inr ⟨_, rfl⟩)
    ·exact .inl ⟨8, .inl rfl, rfl⟩
  ·exact .inl ⟨10, .inr rfl, rfl⟩
 ·exact .inl ⟨8, .inl rfl, rfl⟩
end Go.Proofs.Ythhjkmefpmmleaa
