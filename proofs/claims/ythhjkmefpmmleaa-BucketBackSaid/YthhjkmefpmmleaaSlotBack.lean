/- SlotBack answers true. -/
import Derived.Test.YthhjkmefpmmleaaSlot
namespace Go.Proofs.Ythhjkmefpmmleaa
open Go.Eng
set_option linter.unusedVariables false
set_option linter.unusedSimpArgs false

theorem sb_same (l : List Int) : ref01_Same (l, l) = some true := by rw [ref01_Same_spec, decide_eq_true rfl]
theorem sb_q (x : Int) : Dat.ieq x x = true := by simp [Dat.ieq]
theorem ref09_Same_self (i f : Int) (d : List Int) : ref09_Same ((i, f, d, ()), (i, f, d, ())) = some true := by
  unfold ref09_Same
  have p1 : Dat.pickB true true false = true := rfl
  simp only
  rw [sb_q, cond_true, sb_q, p1, cond_true, sb_same, Dat.bind_some, p1]

theorem sb_slots : slotsS 8 4 3 88 = (2, 0) := by decide
theorem sb_write : writeS 8 4 3 88 2 5 [97, 98, 99, 100] = ([3, 0, 0, 0, 5, 0, 0, 0, 97, 98, 99, 100], 0) := by decide
theorem sb_read : readS 8 4 3 88 [3, 0, 0, 0, 5, 0, 0, 0, 97, 98, 99, 100] = ((2, 5, [97, 98, 99, 100], ()), true, 0) := by decide

theorem str_inj : ∀ {a b : List Int}, isB a → isB b → Dat.str a = Dat.str b → a = b
  | [], [], _, _, _ => rfl
  | [], b :: ys, _, _, h => by simp [Dat.str] at h
  | a :: xs, [], _, _, h => by simp [Dat.str] at h
  | a :: xs, b :: ys, ha, hb, h => by
    simp only [Dat.str, List.map_cons, List.cons.injEq] at h
    have h1 := ha a (by simp)
    have h2 := hb b (by simp)
    have e : a = b := by
      have := congrArg UInt8.toNat h.1
      simp only [UInt8.toNat_ofNat'] at this
      omega
    rw [e, str_inj (fun x hx => ha x (by simp [hx])) (fun x hx => hb x (by simp [hx])) h.2]
theorem zeros_isB (n : Nat) : isB (List.replicate n 0) := by intro x hx; have := List.eq_of_mem_replicate hx; omega
theorem digs_isB4 (n : Int) (m : Nat) : isB (digs n m) := by
  intro x hx
  obtain ⟨j, _, rfl⟩ := List.mem_map.1 hx
  omega

theorem slotW_parts {i f : Int} {d : List Int} : part3 (slotW i f d) = (digs (i + 1) 4, digs f 4, d) := by
  have h1 := digs_len (i + 1) 4
  have h2 := digs_len f 4
  unfold part3 slotW
  rw [List.append_assoc]
  have e1 : (digs (i + 1) 4 ++ (digs f 4 ++ d)).take 4 = digs (i + 1) 4 := by
    rw [List.take_append_of_le_length (by omega), List.take_of_length_le (by omega)]
  have e2 : ((digs (i + 1) 4 ++ (digs f 4 ++ d)).take 8).drop 4 = digs f 4 := by
    rw [List.take_append, h1, List.take_of_length_le (by omega), List.drop_append, h1, List.drop_of_length_le (by omega)]
    simp only [List.nil_append, Nat.sub_self, List.drop_zero]
    rw [List.take_append_of_le_length (by omega), List.take_of_length_le (by omega)]
  have e3 : (digs (i + 1) 4 ++ (digs f 4 ++ d)).drop 8 = d := by
    rw [List.drop_append, h1, List.drop_of_length_le (by omega), List.drop_append, h2, List.drop_of_length_le (by omega)]
    simp
  rw [e1, e2, e3]

/-- What was written is read. -/
theorem read_write {B S H W i f : Int} {d : List Int} (h : checkS B S H W i f d = 0) (hd : isB d) : readS B S H W (slotW i f d) = ((i, f, d, ()), true, 0) := by
  obtain ⟨hs, i0, i1, f0, f1, hl⟩ := check_ok h
  obtain ⟨l1, l2, l3, l4, l5, l6⟩ := lvl_iff.1 (slots_lvl hs)
  have hp := pow2_64 l5
  have hlen : ((slotW i f d).length : Int) = 8 + S := by
    unfold slotW
    simp only [List.length_append, digs_len]; omega
  have h4 : (256 : Int) ^ 4 = 4294967296 := by decide
  have v1 : val (digs (i + 1) 4) = i + 1 := val_digs (by omega) (by rw [h4]; omega)
  have v2 : val (digs f 4) = f := val_digs (by omega) (by rw [h4]; omega)
  have hB : isB (slotW i f d) := by
    intro x hx
    unfold slotW at hx
    rcases List.mem_append.1 hx with hx | hx
    · rcases List.mem_append.1 hx with hx | hx
      · exact digs_isB4 _ _ x hx
      · exact digs_isB4 _ _ x hx
    · exact hd x hx
  have hz : ¬ Dat.str (slotW i f d) = Dat.str (List.replicate (8 + S).toNat 0) := by
    intro e
    have e2 := str_inj hB (zeros_isB _) e
    have e3 := congrArg (fun l => val (part3 l).1) e2
    simp only [slotW_parts, v1] at e3
    have e4 : (part3 (List.replicate (8 + S).toNat (0 : Int))).1 = [0, 0, 0, 0] := by
      simp only [part3, List.take_replicate]
      have : min 4 (8 + S).toNat = 4 := by omega
      rw [this]; rfl
    rw [e4] at e3
    have e5 : val [0, 0, 0, 0] = 0 := by decide
    omega
  unfold readS
  rw [if_pos hs, if_pos hlen, if_neg hz, slotW_parts]
  simp only
  have e : i + 1 - 1 = i := by omega
  rw [v1, v2, e, if_pos h]

/-- What is read is the slot's. -/
theorem write_read {B S H W : Int} {s : List Int} (hB : isB s) {b : Blk} (h : readS B S H W s = (b, true, 0)) : writeS B S H W b.1 b.2.1 b.2.2.1 = (s, 0) := by
  unfold readS at h
  split at h
  · split at h
    · rename_i hs hl
      split at h
      · simp at h
      · split at h
        · rename_i hc
          simp only [Prod.mk.injEq, and_true] at h
          subst h
          simp only
          unfold writeS
          rw [if_pos hc]
          have hp1 : (part3 s).1.length = 4 := by
            obtain ⟨hs, _⟩ := check_ok hc
            obtain ⟨l1, l2, l3, l4, l5, l6⟩ := lvl_iff.1 (slots_lvl hs)
            simp only [part3, List.length_take]; omega
          have hp2 : (part3 s).2.1.length = 4 := by
            obtain ⟨hs, _⟩ := check_ok hc
            obtain ⟨l1, l2, l3, l4, l5, l6⟩ := lvl_iff.1 (slots_lvl hs)
            simp only [part3, List.length_take, List.length_drop]; omega
          have hb1 : isB (part3 s).1 := isB_take hB _
          have hb2 : isB (part3 s).2.1 := isB_drop (isB_take hB _) _
          have d1 := digs_val hb1
          have d2 := digs_val hb2
          rw [hp1] at d1
          rw [hp2] at d2
          have e : val (part3 s).1 - 1 + 1 = val (part3 s).1 := by omega
          unfold slotW
          rw [e, d1, d2]
          have : s = s.take 4 ++ (s.take 8).drop 4 ++ s.drop 8 := by
            have h1 : s.take 8 = (s.take 8).take 4 ++ (s.take 8).drop 4 := (List.take_append_drop 4 _).symm
            have h2 : (s.take 8).take 4 = s.take 4 := by rw [List.take_take]; rfl
            rw [h2] at h1
            rw [← h1, List.take_append_drop]
          rw [show (part3 s).1 ++ (part3 s).2.1 ++ (part3 s).2.2 = s from this.symm]
        · simp at h
    · simp at h
  · simp at h

theorem read_cases (B S H W : Int) (s : List Int) : (∃ e : Int, (e = 8 ∨ e = 10) ∧ readS B S H W s = (noB, false, e)) ∨ (readS B S H W s = (noB, false, 0) ∧ (slotsS B S H W).2 = 0 ∧ Dat.str s = Dat.str (List.replicate (8 + S).toNat 0)) ∨ ∃ b : Blk, readS B S H W s = (b, true, 0) := by
  unfold readS
  split
  · rename_i hs
    split
    · split
      · rename_i hz; exact .inr (.inl ⟨rfl, hs, hz⟩)
      · split
        · exact .inr (.inr ⟨_, rfl⟩)
        · exact .inl ⟨8, .inl rfl, rfl⟩
    · exact .inl ⟨10, .inr rfl, rfl⟩
  · exact .inl ⟨8, .inl rfl, rfl⟩

theorem sb_tail (B S H W : Int) (s : List Int) (hB : isB s) :
  (Dat.bind (slot_Read ((B, (S, (H, (W, ())))), s)) fun (x23 : ((Int) × ((Int) × ((List (Int)) × (Unit)))) × ((Bool) × (Int))) =>
 (bif (Dat.ine x23.2.2 0) then (bif true then (bif (Dat.pickB true (Dat.bnot x23.2.1) false) then Dat.bind (ref09_Same ((x23.1.1, (x23.1.2.1, (x23.1.2.2.1, ()))), (0, (0, (([] : List (Int)), ()))))) fun (x24 : Bool) =>
 some (Dat.pickB true x24 false)
 else some false)
 else some false)
 else (bif (Dat.bnot x23.2.1) then Dat.bind (slot_None (B, (S, (H, (W, ()))))) fun (x25 : (List (Int)) × (Int)) =>
 (bif true then (bif (Dat.pickB true (Dat.ieq x25.2 0) false) then Dat.bind (ref01_Same (x25.1, s)) fun (x26 : Bool) =>
 some (Dat.pickB true x26 false)
 else some false)
 else some false)
 else Dat.bind (slot_Write ((B, (S, (H, (W, ())))), (x23.1.1, (x23.1.2.1, (x23.1.2.2.1, ()))))) fun (x27 : (List (Int)) × (Int)) =>
 (bif true then (bif (Dat.pickB true (Dat.ieq x27.2 0) false) then Dat.bind (ref01_Same (x27.1, s)) fun (x28 : Bool) =>
 some (Dat.pickB true x28 false)
 else some false)
 else some false)))) = some true := by
  have p1 : Dat.pickB true true false = true := rfl
  have z0 : Dat.ine 0 0 = false := rfl
  have b0 : Dat.bnot false = true := rfl
  have b1 : Dat.bnot true = false := rfl
  rw [slot_Read_spec _ _ _ _ _ hB, Dat.bind_some]
  rcases read_cases B S H W s with ⟨e, he, hr⟩ | ⟨hr, h0, hz⟩ | ⟨b, hr⟩
  · have ze : Dat.ine e 0 = true := by rcases he with rfl | rfl <;> rfl
    rw [hr]
    simp only [noB]
    rw [ze, cond_true, cond_true, b0, p1, cond_true, ref09_Same_self, Dat.bind_some, p1]
  · rw [hr]
    simp only [noB]
    rw [z0, cond_false, b0, cond_true, slot_None_spec, Dat.bind_some]
    unfold noneS
    rw [if_pos h0]
    simp only
    rw [cond_true, sb_q, p1, cond_true, ref01_Same_spec, Dat.bind_some, decide_eq_true hz.symm, p1]
  · have hw := write_read hB hr
    rw [hr]
    simp only
    rw [z0, cond_false, b1, cond_false, slot_Write_spec, Dat.bind_some, hw]
    simp only
    rw [cond_true, sb_q, p1, cond_true, sb_same, Dat.bind_some, p1]

end Go.Proofs.Ythhjkmefpmmleaa
