/- SHA-256: bytes that come. -/
import Derived.Test.YtecoonecmmbggaaDoorShaB
namespace Go.Proofs.YtecoonecmmbggaaDoor
open Go.Eng
set_option linter.unusedVariables false
set_option linter.unusedSimpArgs false

theorem eight {l : List Int} (h : l.length = 8) : (Dat.get l 0 0 :: Dat.get l 1 0 :: Dat.get l 2 0 :: Dat.get l 3 0 :: Dat.get l 4 0 :: Dat.get l 5 0 :: Dat.get l 6 0 :: Dat.get l 7 0 :: ([] : List Int)) = l := by
  match l, h with
  | [a, b, c, d, e, f, g, i], _ => rfl
def pk8 {α : Type} (X : List Int) (r : α) : Int × (Int × (Int × (Int × (Int × (Int × (Int × (Int × α))))))) :=
  (Dat.get X 0 0, (Dat.get X 1 0, (Dat.get X 2 0, (Dat.get X 3 0, (Dat.get X 4 0, (Dat.get X 5 0, (Dat.get X 6 0, (Dat.get X 7 0, r))))))))
theorem map_len {W : List W32} (h : W.length = 8) : (W.map ofW).length = 8 := by simp [h]

/-- So many blocks of bytes, turned. -/
def eat (W : List W32) (l : List Int) : Nat → List W32
  | 0 => W
  | n + 1 => trn (eat W l n) ((l.drop (64 * n)).take 64)
theorem eat_len (W : List W32) (l : List Int) (hW : W.length = 8) : ∀ n, (eat W l n).length = 8
  | 0 => hW
  | n + 1 => trn_len _ _ (eat_len W l hW n)
theorem eat_app (W : List W32) (l m : List Int) : ∀ n, 64 * n ≤ l.length → eat W (l ++ m) n = eat W l n
  | 0, _ => rfl
  | n + 1, h => by
    simp only [eat]
    rw [eat_app W l m n (by omega), List.drop_append_of_le_length (by omega), List.take_append_of_le_length (by simp; omega)]
theorem eat_add (W : List W32) (l : List Int) (n : Nat) : ∀ k, eat W l (n + k) = eat (eat W l n) (l.drop (64 * n)) k
  | 0 => rfl
  | k + 1 => by
    rw [← Nat.add_assoc]
    simp only [eat]
    rw [eat_add W l n k, List.drop_drop, ← Nat.mul_add]

/-- May it be? -/
def chk (r : List Int) (m : Int) : Int := if m < 72057594037927936 ∧ (r.length : Int) = m % 64 then 0 else 8
theorem chk_cases (r : List Int) (m : Int) : chk r m = 0 ∨ chk r m = 8 := by unfold chk; split <;> simp
theorem chk_ok {r : List Int} {m : Int} (h : chk r m = 0) : m < 72057594037927936 ∧ (r.length : Int) = m % 64 := by
  unfold chk at h
  split at h
  · assumption
  · simp at h

theorem sha_Check_spec (X r : List Int) (m : Int) (hm : 0 ≤ m) (hr : r.length < 4294967296) : sha_Check (X, (r, (m, ()))) = some (chk r m) := by
  unfold sha_Check
  dsimp only
  by_cases h : m < 72057594037927936
  · refine cond_f (decide_eq_false (by omega)) ?_
    refine bnd_to (wrapU (by simp only [Dat.ofN, Dat.len]; omega)) ?_
    refine ite_none (by decide) ?_
    refine bnd_to (y := m % 64) (Int.tmod_eq_emod_of_nonneg hm) ?_
    by_cases h2 : (r.length : Int) = m % 64
    · refine cond_f (by show (if False then false else (r.length : Int) != m % 64) = false; simp [h2]) ?_
      rw [chk, if_pos ⟨h, h2⟩]
    · refine cond_t (by simp [Dat.pickB, Dat.ine, Dat.ofN, Dat.len, h2]) ?_
      rw [chk, if_neg (fun x => h2 x.2)]
  · refine cond_t (decide_eq_true (by omega)) ?_
    rw [chk, if_neg (fun x => h x.1)]

theorem ref02_Came_spec (W : List W32) (r b : List Int) (m : Int) (hW : W.length = 8) (hr : r.length ≤ 100000) (hb : b.length ≤ 100000) (hm : 0 ≤ m ∧ m + 100000 < 18446744073709551616) :
    ref02_Came ((W.map ofW, (r, (m, ()))), b) = some ((eat W (r ++ b) ((r ++ b).length / 64)).map ofW, ((r ++ b).drop (64 * ((r ++ b).length / 64)), (m + b.length, ()))) := by
  unfold ref02_Came
  dsimp only
  refine ite_some (by decide) ?_
  refine ite_none (by simp only [Dat.Big, Dat.len, Dat.seg, List.drop_nil, List.take_nil, List.length_nil]; omega) ?_
  refine bnd_to (y := r) (by simp [Dat.app, Dat.seg]) ?_
  refine ite_none (by simp only [Dat.Big, Dat.len]; omega) ?_
  refine ite_some rfl ?_
  refine bnd_to (y := r ++ b) rfl ?_
  have hl : (r ++ b).length = r.length + b.length := List.length_append
  generalize r ++ b = l at hl
  have h0 : ∃ n, 64 * n ≤ l.length ∧ ((l, pk8 (W.map ofW) (r, m)) : List Int × _) = (l.drop (64 * n), pk8 ((eat W l n).map ofW) (r, m)) := ⟨0, by omega, rfl⟩
  refine loop_inv (fun s => ∃ n, 64 * n ≤ l.length ∧ s = (l.drop (64 * n), pk8 ((eat W l n).map ofW) (r, m))) (fun s => s.1.length) ?_ h0 (by show l.length < _; omega)
  rintro s k ⟨n, hn, rfl⟩ hk
  have h8 := map_len (eat_len W l hW n)
  simp only [pk8]
  rw [eight h8]
  by_cases h : 64 ≤ (l.drop (64 * n)).length
  · refine cond_t (decide_eq_true (by simp only [Dat.ofN, Dat.len]; omega)) ?_
    refine ite_some ⟨by omega, by simp only [Dat.len]; omega⟩ ?_
    refine bnd_to (y := (l.drop (64 * n)).take 64) (by simp [Dat.slice, Dat.toN]) ?_
    refine bind_to (ref02_Turn_spec (eat W l n) _ (eat_len W l hW n) (by simp at h ⊢; omega)) ?_
    refine ite_some ⟨by omega, by simp only [Dat.len]; omega⟩ ?_
    refine bnd_to (y := l.drop (64 * (n + 1))) (by simp only [Dat.slice, Dat.toN, Dat.len, List.take_length, List.drop_drop]; rfl) ?_
    refine hk _ ⟨n + 1, by simp at h; omega, rfl⟩ ?_
    show (l.drop (64 * (n + 1))).length < (l.drop (64 * n)).length
    simp at h ⊢; omega
  · refine cond_f (decide_eq_false (by simp only [Dat.ofN, Dat.len]; omega)) ?_
    have hq : l.length / 64 = n := by simp at h; omega
    rw [hq]
    refine bnd_to (wrapU (by simp only [Dat.ofN, Dat.len]; omega)) ?_
    refine bnd_to (wrapU (by simp only [Dat.add, Dat.ofN, Dat.len]; omega)) ?_
    rfl

def z8 : List Int := [0, 0, 0, 0, 0, 0, 0, 0]
/-- More bytes. -/
def moreS (W : List W32) (r : List Int) (m : Int) (b : List Int) : (List Int × (List Int × (Int × Unit))) × Int :=
  if chk r m = 0 then
    (if m + b.length ≥ 72057594037927936 then ((z8, ([], (0, ()))), 4)
    else (((eat W (r ++ b) ((r ++ b).length / 64)).map ofW, ((r ++ b).drop (64 * ((r ++ b).length / 64)), (m + b.length, ()))), 0))
  else ((z8, ([], (0, ()))), 8)

theorem sha_More_spec (W : List W32) (r b : List Int) (m : Int) (hW : W.length = 8) (hr : r.length ≤ 100000) (hb : b.length ≤ 100000) (hm : 0 ≤ m ∧ m < 18446744073709551616) :
    sha_More ((W.map ofW, (r, (m, ()))), b) = some (moreS W r m b) := by
  unfold sha_More
  dsimp only
  rw [eight (map_len hW)]
  refine bind_to (sha_Check_spec _ r m hm.1 (by omega)) ?_
  unfold moreS
  rcases chk_cases r m with h | h
  · rw [h, if_pos rfl]
    obtain ⟨h1, h1r⟩ := chk_ok h
    refine cond_f rfl ?_
    refine bnd_to (wrapU (by simp only [Dat.ofN, Dat.len]; omega)) ?_
    refine bnd_to (wrapU (by simp only [Dat.sub]; omega)) ?_
    by_cases h2 : m + b.length ≥ 72057594037927936
    · refine cond_t (decide_eq_true (by simp only [Dat.sub, Dat.ofN, Dat.len]; omega)) ?_
      rw [if_pos h2]; rfl
    · refine cond_f (decide_eq_false (by simp only [Dat.sub, Dat.ofN, Dat.len]; omega)) ?_
      rw [if_neg h2]
      refine bnd_to (wrapU (by simp only [Dat.ofN, Dat.len]; omega)) ?_
      refine bnd_to (y := m + b.length) (wrapU (by simp only [Dat.add, Dat.ofN, Dat.len]; omega)) ?_
      refine ite_some (by decide) ?_
      refine ite_some (by decide) ?_
      refine ite_some (by decide) ?_
      have hr64 : r.length < 64 := by omega
      have hmin : Dat.minN (Dat.len r) (Dat.subN 64 0) = r.length := by simp only [Dat.minN, Dat.len, Dat.subN]; omega
      rw [hmin]
      have hl : (r ++ b).length = r.length + b.length := List.length_append
      have hstart : Dat.put (Dat.rep 64 0) 0 (Dat.take r.length r) = r ++ List.replicate (64 - r.length) 0 := by
        simp only [Dat.put, Dat.take, Dat.rep, splice, List.take_length, List.take_zero, List.nil_append, Nat.zero_add, List.drop_replicate]
      rw [hstart]
      generalize hlb : r ++ b = l at hl
      refine loop_inv (fun s => ∃ (n f : Nat) (c blk : List Int), 64 * n ≤ l.length ∧ f < 64 ∧ blk.length = 64 ∧ l.drop (64 * n) = blk.take f ++ c ∧ s = ((f : Int), (c, (pk8 ((eat W l n).map ofW) (([] : List Int), m + b.length), blk))))
        (fun s => s.2.1.length) ?_ ⟨0, r.length, b, r ++ List.replicate (64 - r.length) 0, by omega, hr64, by simp; omega, by simp [← hlb], rfl⟩ (by show b.length < _; omega)
      rintro s k ⟨n, f, c, blk, hn, hf, hblk, hdr, rfl⟩ hk
      have h8 := map_len (eat_len W l hW n)
      have hX8 := eat_len W l hW n
      simp only [pk8]
      rw [eight h8]
      generalize hmn : Dat.minN (Dat.len c) (Dat.subN 64 (Dat.toN (f : Int))) = mn
      have hmn' : mn = min c.length (64 - f) := by rw [← hmn]; simp [Dat.minN, Dat.len, Dat.subN, Dat.toN]
      have hlen : l.length - 64 * n = f + c.length := by
        have := congrArg List.length hdr
        simp only [List.length_drop, List.length_append, List.length_take, hblk] at this
        omega
      refine ite_some (by simp only [Dat.Le, Dat.len]; omega) ?_
      refine ite_some ⟨by omega, by omega⟩ ?_
      refine ite_some (by simp only [Dat.Lt, Dat.toN]; omega) ?_
      refine ite_some (by simp only [Dat.Le, Dat.addN, Dat.subN, Dat.toN, Dat.len]; omega) ?_
      refine bnd_to (y := ((f + mn : Nat) : Int)) (by rw [wrapI] <;> simp only [Dat.add, Dat.ofN] <;> omega) ?_
      refine ite_some ⟨by simp only [Dat.ofN]; omega, by simp only [Dat.ofN, Dat.len]; omega⟩ ?_
      refine bnd_to (y := c.drop mn) (by simp [Dat.slice, Dat.toN, Dat.ofN, Dat.len]) ?_
      have hput : Dat.put blk (Dat.toN (f : Int)) (Dat.take mn c) = blk.take f ++ c.take mn ++ blk.drop (f + mn) := by
        simp only [Dat.put, Dat.take, Dat.toN, splice, Int.toNat_natCast, List.length_take]
        congr 3; omega
      rw [hput]
      have hpl : (blk.take f ++ c.take mn ++ blk.drop (f + mn)).length = 64 := by simp; omega
      generalize hb2 : blk.take f ++ c.take mn ++ blk.drop (f + mn) = blk2 at hpl
      by_cases h3 : f + mn < 64
      · refine cond_t (decide_eq_true (by omega)) ?_
        have hmc : mn = c.length := by omega
        have hq : l.length / 64 = n := by omega
        rw [hq]
        have hseg : Dat.seg blk2 0 (Dat.subN (Dat.toN ((f + mn : Nat) : Int)) 0) = l.drop (64 * n) := by
          simp only [Dat.seg, Dat.subN, Dat.toN, Int.toNat_natCast, List.drop_zero, Nat.sub_zero]
          rw [← hb2, List.append_assoc, hdr, hmc, List.take_length, ← List.append_assoc, List.take_append_of_le_length (by simp; omega), List.take_of_length_le (by simp; omega)]
        rw [hseg]
        have hrl : (l.drop (64 * n)).length = f + mn := by simp; omega
        refine ite_some (by simp only [Dat.Le, Dat.len]; omega) ?_
        refine ite_some ⟨by omega, by omega⟩ ?_
        have gle : Dat.Le (Dat.addN 0 (Dat.subN (Dat.toN ((f + mn : Nat) : Int)) 0)) (Dat.len blk2) := by simp only [Dat.Le, Dat.addN, Dat.subN, Dat.toN, Dat.len]; omega
        rw [if_pos (show Dat.Lt 0 64 by decide)]
        refine ite_some gle ?_
        by_cases h4 : (l.drop (64 * n)).length = 0
        · rw [if_pos (show Dat.EqN (Dat.len (l.drop (64 * n))) 0 from h4)]
          have hnil : l.drop (64 * n) = [] := List.length_eq_zero_iff.1 h4
          rw [hnil]
          refine ite_some gle ?_
          refine bind_to (show slices_Clone_byte_byte [] = some [] from by unfold slices_Clone_byte_byte; rfl) ?_
          exact ite_some rfl rfl
        · rw [if_neg (show ¬ Dat.EqN (Dat.len (l.drop (64 * n))) 0 from h4)]
          refine ite_some gle ?_
          refine ite_some (by decide) ?_
          rw [if_neg (show ¬ Dat.EqN (Dat.len (l.drop (64 * n))) 0 from h4)]
          refine ite_none (by simp only [Dat.Big, Dat.len, Dat.seg, List.drop_nil, List.take_nil, List.length_nil]; omega) ?_
          refine bnd_to (y := l.drop (64 * n)) (by simp [Dat.app, Dat.seg]) ?_
          refine ite_some (by simp [Dat.Le, Dat.addN, Dat.len]) ?_
          simp only [Dat.seg, Dat.len, List.drop_zero, List.take_length]
      · refine cond_f (decide_eq_false (by omega)) ?_
        have hmc : mn = 64 - f := by omega
        refine ite_some hpl ?_
        refine bind_to (sha_turn_spec (eat W l n) blk2 hX8 hpl) ?_
        have hblk2 : blk2 = (l.drop (64 * n)).take 64 := by
          rw [hdr, ← hb2, List.drop_of_length_le (by omega), List.append_nil, List.take_append, List.take_take, List.length_take]
          congr 2 <;> omega
        refine hk _ ⟨n + 1, 0, c.drop mn, blk2, by omega, by omega, hpl, ?_, ?_⟩ ?_
        · rw [List.take_zero, List.nil_append, show 64 * (n + 1) = 64 * n + 64 by omega, ← List.drop_drop, hdr, List.drop_append, List.length_take, List.drop_of_length_le (by simp; omega), List.nil_append]
          congr 1; omega
        · rw [hblk2]; rfl
        · show (c.drop mn).length < c.length
          simp; omega
  · rw [h, if_neg (by decide)]
    exact cond_t rfl rfl
end Go.Proofs.YtecoonecmmbggaaDoor
