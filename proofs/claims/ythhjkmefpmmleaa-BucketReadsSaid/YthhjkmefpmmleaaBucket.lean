/- Buckets: whether one may be, and its text. -/
import Derived.Test.YthhjkmefpmmleaaSlotref
import Derived.Test.YthhjkmefpmmleaaSlotBack
import Derived.Test.YthhjkmefpmmleaaMaps
import Derived.Test.YthhjkmefpmmleaaStep
namespace Go.Proofs.Ythhjkmefpmmleaa
open Go.Eng
set_option linter.unusedVariables false
set_option linter.unusedSimpArgs false
def bOk (B S H W : Int) (b : Blk) : Bool := decide (checkS B S H W b.1 b.2.1 b.2.2.1 = 0)
def idsL (l : List Blk) : List Int := l.map fun b => b.1
def bchk (B S H W : Int) (l : List Blk) : Int :=
 if (slotsS B S H W).2 = 0 then (if (l.length : Int) > (slotsS B S H W).1 then 8 else if l.all (bOk B S H W) = true ∧ (idsL l).Nodup then 0 else 8) else 8
theorem many_le (B S H W : Int) : (slotsS B S H W).1 ≤ 4 ∧ 0 ≤ (slotsS B S H W).1 := by
 unfold slotsS
 split
 ·split
  ·simp
  ·split
   ·simp
   ·split
    ·simp
    ·split <;> simp
 ·simp
theorem bget (l : List Blk) {i : Nat} (h : i < l.length) : Dat.get l (Dat.toN (i : Int)) (0, (0, (([] : List Int), ()))) = l[i] := by
 simp [Dat.get, Dat.toN, List.getD, h]
theorem bucket_Check_spec (B S H W : Int) (l : List Blk) (L R : List Int) : bucket_Check ((B, S, H, W, ()), (l, L, R, ())) = some (bchk B S H W l) := by
 unfold bucket_Check
 dsimp only
 refine bind_to (slot_Slots_spec B S H W) ?_
 unfold bchk
 rcases slots_two B S H W with h0 | h8
 ·rw [if_pos h0, h0]
  refine cond_f rfl ?_
  by_cases hm : (l.length : Int) > (slotsS B S H W).1
  ·rw [if_pos hm]
   exact cond_t (decide_eq_true (by simp only [Dat.ofN, Dat.len]; omega)) rfl
  ·rw [if_neg hm]
   have hm4 := (many_le B S H W).1
   refine cond_f (decide_eq_false (by simp only [Dat.ofN, Dat.len]; omega)) ?_
   refine loop_inv (fun (s : Int × List (Int × Int)) => ∃ i : Nat, i ≤ l.length ∧ s.1 = i ∧ (∀ x, (mval s.2 x).getD 0 = if x ∈ idsL (l.take i) then 1 else 0) ∧ (l.take i).all (bOk B S H W) = true ∧ (idsL (l.take i)).Nodup)
    (fun s => l.length - s.1.toNat) ?_ ⟨0, by omega, rfl, by simp [idsL, mval, Dat.mfind], by simp, by simp [idsL]⟩ (mu_lt _ _ (by omega))
   rintro ⟨s1, s2⟩ k ⟨i, hi, rfl, hes, hall, hnd⟩ hk
   dsimp only at hes ⊢
   by_cases hlt : i < l.length
   ·have htk : l.take (i + 1) = l.take i ++ [l[i]] := List.take_succ_eq_append_getElem hlt
    have hids : idsL (l.take (i + 1)) = idsL (l.take i) ++ [l[i].1] := by unfold idsL; rw [htk, List.map_append]; rfl
    refine cond_t (decide_eq_true (by simp only [Dat.ofN, Dat.len]; omega)) ?_
    refine ite_some ⟨by omega, by simp only [Dat.len]; omega⟩ ?_
    refine bnd_to (bget l hlt) ?_
    generalize hb : l[i] = b at *
    have hmem : b ∈ l := hb ▸ List.getElem_mem hlt
    obtain ⟨bi, bf, bd, _⟩ := b
    dsimp only at hids ⊢
    by_cases hin : bi ∈ idsL (l.take i)
    ·have bad : ¬ (l.all (bOk B S H W) = true ∧ (idsL l).Nodup) := by
      rintro ⟨_, hn⟩
      have : (idsL (l.take (i + 1))).Nodup := by
       have e : idsL (l.take (i + 1)) = (idsL l).take (i + 1) := by simp [idsL, List.map_take]
       rw [e]; exact hn.sublist (List.take_sublist _ _)
      rw [hids, List.nodup_append] at this
      exact this.2.2 _ hin _ (by simp) rfl
     rw [if_neg bad]
     have h1 := hes bi
     rw [if_pos hin] at h1
     refine bnd_to (y := 1) (by rw [mget_eq]; exact h1) ?_
     refine bnd_to (y := 2) (by decide) ?_
     refine bnd_to rfl ?_
     refine bind_to (slot_Check_spec B S H W bi bf bd) ?_
     rcases check_two B S H W bi bf bd with k0 | k8
     ·rw [k0]
      refine cond_f rfl ?_
      refine bnd_to (y := 2) (by rw [mget_eq, mval_put, if_pos rfl]; rfl) ?_
      exact cond_t rfl rfl
     ·rw [k8]; exact cond_t rfl rfl
    ·have h1 := hes bi
     rw [if_neg hin] at h1
     refine bnd_to (y := 0) (by rw [mget_eq]; exact h1) ?_
     refine bnd_to (y := 1) (by decide) ?_
     refine bnd_to rfl ?_
     refine bind_to (slot_Check_spec B S H W bi bf bd) ?_
     rcases check_two B S H W bi bf bd with k0 | k8
     ·rw [k0]
      refine cond_f rfl ?_
      refine bnd_to (y := 1) (by rw [mget_eq, mval_put, if_pos rfl]; rfl) ?_
      refine cond_f rfl ?_
      refine bnd_to (wrapI (by simp only [Dat.add]; omega)) ?_
      refine hk _ ⟨i + 1, by omega, rfl, ?_, ?_, ?_⟩ (by show l.length - ((i : Int) + 1).toNat < l.length - ((i : Int)).toNat; omega)
      ·intro x
       show (mval (Dat.mput s2 bi 1) x).getD 0 = _
       rw [mval_put, hids]
       by_cases hx : x = bi
       ·subst hx; simp
       ·rw [if_neg hx, hes x]
        simp [hx]
      ·rw [htk, List.all_append, hall]
       simp [bOk, k0]
      ·rw [hids, List.nodup_append]
       exact ⟨hnd, by simp, fun a ha b hb e => by simp at hb; subst hb; subst e; exact hin ha⟩
     ·rw [k8]
      have bad : ¬ (l.all (bOk B S H W) = true ∧ (idsL l).Nodup) := by
       rintro ⟨ha, _⟩
       have := List.all_eq_true.1 ha _ hmem
       unfold bOk at this
       have := of_decide_eq_true this
       dsimp only at this
       omega
      rw [if_neg bad]
      exact cond_t rfl rfl
   ·obtain rfl : i = l.length := by omega
    rw [List.take_length] at hall hnd
    have he : (if l.all (bOk B S H W) = true ∧ (idsL l).Nodup then (0 : Int) else 8) = 0 := if_pos ⟨hall, hnd⟩
    rw [he]
    exact cond_f (decide_eq_false (by simp only [Dat.ofN, Dat.len]; omega)) rfl
 ·have hne : ¬ (slotsS B S H W).2 = 0 := by rw [h8]; simp
  rw [if_neg hne, h8]; rfl
theorem bchk_ok {B S H W : Int} {l : List Blk} (h : bchk B S H W l = 0) : (slotsS B S H W).2 = 0 ∧ (l.length : Int) ≤ (slotsS B S H W).1 ∧ (∀ b ∈ l, checkS B S H W b.1 b.2.1 b.2.2.1 = 0) ∧ (idsL l).Nodup := by
 unfold bchk at h
 split at h
 ·rename_i h0
  split at h
  ·omega
  ·rename_i hl
   split at h
   ·rename_i hall
    exact ⟨h0, by omega, fun b hb => of_decide_eq_true (List.all_eq_true.1 hall.1 b hb), hall.2⟩
   ·omega
 ·omega
theorem bchk_two (B S H W : Int) (l : List Blk) : bchk B S H W l = 0 ∨ bchk B S H W l = 8 := by
 unfold bchk
 split
 ·split
  ·exact .inr rfl
  ·split
   ·exact .inl rfl
   ·exact .inr rfl
 ·exact .inr rfl
def slotAt (S : Int) (l : List Blk) (i : Nat) : List Int := match l[i]? with
 | some b => slotW b.1 b.2.1 b.2.2.1
 | none => List.replicate (8 + S).toNat 0
def slotsL (S : Int) (l : List Blk) (n : Nat) : List Int := (List.range n).flatMap (slotAt S l)
theorem slotsL_succ (S : Int) (l : List Blk) (n : Nat) : slotsL S l (n + 1) = slotsL S l n ++ slotAt S l n := by simp [slotsL, List.range_succ]
def arr32 (d : List Int) : List Int := Dat.norm 32 d 0
theorem arr32_len (d : List Int) : (arr32 d).length = 32 := by simp [arr32, Dat.norm]
def writeB (B S H W : Int) (l : List Blk) (L R : List Int) : List Int × Int := if bchk B S H W l = 0 then (slotsL S l (slotsS B S H W).1.toNat ++ arr32 L ++ arr32 R, 0) else ([], bchk B S H W l)
theorem slotAt_len {B S H W : Int} {l : List Blk} (h : bchk B S H W l = 0) (i : Nat) : (slotAt S l i).length = (8 + S).toNat := by
 obtain ⟨h0, _, hb, _⟩ := bchk_ok h
 unfold slotAt
 cases hi : l[i]? with
 | none => simp
 | some b =>
  have := check_ok (hb b (List.mem_of_getElem? hi))
  simp only
  rw [slotW_len]; omega
theorem slotsL_len {B S H W : Int} {l : List Blk} (h : bchk B S H W l = 0) : ∀ n, (slotsL S l n).length = n * (8 + S).toNat
 | 0 => by simp [slotsL]
 | n + 1 => by rw [slotsL_succ, List.length_append, slotsL_len h n, slotAt_len h, Nat.add_mul]; omega
theorem W_eq {B S H W : Int} (h : (slotsS B S H W).2 = 0) : W = (slotsS B S H W).1 * (8 + S) + 64 ∧ 1 ≤ (slotsS B S H W).1 := by
 unfold slotsS at h ⊢
 split
 ·rename_i h1
  rw [if_pos h1] at h
  split
  ·rename_i h2; exact ⟨h2, by omega⟩
  ·rename_i h2
   rw [if_neg h2] at h
   split
   ·rename_i h3; exact ⟨h3, by omega⟩
   ·rename_i h3
    rw [if_neg h3] at h
    split
    ·rename_i h4; exact ⟨h4, by omega⟩
    ·rename_i h4
     rw [if_neg h4] at h
     split
     ·rename_i h5; exact ⟨h5, by omega⟩
     ·rename_i h5; rw [if_neg h5] at h; simp at h
 ·rename_i h1; rw [if_neg h1] at h; simp at h
theorem app_one {β : Type} {s x y : List Int} {k : List Int → Option β} {r : β} (hs : s.length ≤ 100000) (hx : x.length ≤ 100000) (hy : s ++ x = y) (hk : k y = some r) :
  (if Dat.Big (Dat.len s) (Dat.len x) 1 then none else if Dat.EqN (Dat.len s) (Dat.len s) then Dat.bnd (Dat.app s x) k else none) = some r := by
 refine ite_none (by simp only [Dat.Big, Dat.len]; omega) ?_
 refine ite_some (by trivial) ?_
 exact bnd_to hy hk
end Go.Proofs.Ythhjkmefpmmleaa
