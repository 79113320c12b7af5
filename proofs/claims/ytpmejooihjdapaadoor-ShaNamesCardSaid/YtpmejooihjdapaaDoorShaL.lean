/- The statements about digests answer true. -/
import Derived.Test.YtpmejooihjdapaaDoorShaX
import Derived.Test.YtpmejooihjdapaaDoorSpoil
namespace Go.Proofs.YtpmejooihjdapaaDoor
open Go.Eng
set_option linter.unusedVariables false
set_option linter.unusedSimpArgs false

theorem lq_self (n : Nat) (l : List Int) : Dat.lq n l l = true := by simp [Dat.lq]
theorem seq_self (l : List UInt8) : Dat.seq l l = true := by simp [Dat.seq]
theorem ieq_self (x : Int) : Dat.ieq x x = true := by simp [Dat.ieq]
theorem pk_t (b : Bool) : Dat.pickB true b false = b := rfl
theorem pk_f (b : Bool) : Dat.pickB false true b = b := rfl
theorem words_of {X : List Int} (h : X.length = 8) (hx : ∀ x ∈ X, isW x) : ∃ W : List W32, W.length = 8 ∧ X = W.map ofW := by
  have key : ∀ X : List Int, (∀ x ∈ X, isW x) → ∃ W : List W32, X = W.map ofW := by
    intro X
    induction X with
    | nil => intro _; exact ⟨[], rfl⟩
    | cons x X ih =>
      intro h
      obtain ⟨W, rfl⟩ := ih (fun y hy => h y (by simp [hy]))
      obtain ⟨w, rfl⟩ := isW_of (h x (by simp))
      exact ⟨w :: W, rfl⟩
  obtain ⟨W, rfl⟩ := key X hx
  exact ⟨W, by simpa using h, rfl⟩

theorem shaTells_any (a b c : List Int) : law02_ShaTells (a, b, c) = some true := by
  unfold law02_ShaTells
  simp only [Dat.join_eq]
  by_cases ha : a.length > 500
  · exact cond_t (decide_eq_true (by simp only [Dat.ofN, Dat.len]; omega)) (cond_t rfl rfl)
  refine cond_f (decide_eq_false (by simp only [Dat.ofN, Dat.len]; omega)) ?_
  by_cases hb : b.length > 500
  · exact cond_t (by rw [pk_f]; exact decide_eq_true (by simp only [Dat.ofN, Dat.len]; omega)) (cond_t rfl rfl)
  refine cond_f (by rw [pk_f]; exact decide_eq_false (by simp only [Dat.ofN, Dat.len]; omega)) ?_
  by_cases hc : c.length > 500
  · exact cond_t (by rw [pk_f]; exact decide_eq_true (by simp only [Dat.ofN, Dat.len]; omega)) rfl
  refine cond_f (by rw [pk_f]; exact decide_eq_false (by simp only [Dat.ofN, Dat.len]; omega)) ?_
  refine ite_some (by decide) ?_
  refine ite_none (by simp only [Dat.Big, Dat.len, Dat.seg, List.drop_nil, List.take_nil, List.length_nil]; omega) ?_
  refine bnd_to (y := a) (by simp [Dat.app, Dat.seg]) ?_
  refine ite_some (by decide) ?_
  refine ite_none (by simp only [Dat.Big, Dat.len, Dat.seg, List.drop_nil, List.take_nil, List.length_nil]; omega) ?_
  refine bnd_to (y := b) (by simp [Dat.app, Dat.seg]) ?_
  refine ite_some (by decide) ?_
  refine ite_none (by simp only [Dat.Big, Dat.len, Dat.seg, List.drop_nil, List.take_nil, List.length_nil]; omega) ?_
  refine bnd_to (y := c) (by simp [Dat.app, Dat.seg]) ?_
  have hall : ∀ x ∈ [a, b, c], x.length ≤ 1000 := by
    intro x hx
    simp at hx
    rcases hx with rfl | rfl | rfl <;> omega
  refine bind_to (sha_Of_spec [a, b, c] (by simp) hall) ?_
  refine ite_some (by decide) ?_
  rw [norm_same (digS_len _)]
  refine ite_some (digS_len _) ?_
  refine ite_some (by simp [Dat.Le, Dat.addN, Dat.len]) ?_
  refine bind_to (ref02_Joined_spec [a, b, c] (by simp) hall) ?_
  refine bind_to (ref02_Of_spec _ (by simp; omega)) ?_
  refine cond_t (lq_self _ _) ?_
  refine bnd_to rfl ?_
  refine bnd_to rfl ?_
  refine cond_t (by rw [pk_t]; exact seq_self _) ?_
  refine bnd_to rfl ?_
  refine bnd_to rfl ?_
  refine cond_t (by rw [pk_t]; exact seq_self _) ?_
  refine bnd_to rfl ?_
  refine bnd_to rfl ?_
  rw [pk_t, seq_self]

theorem law02_ShaTells_true (d : Els p_law02_ShaTells.args) (hf : Fits p_law02_ShaTells.args d) : law02_ShaTells d = some true := by
  obtain ⟨a, b, c⟩ := d
  exact shaTells_any a b c

/-! ### One behind the other -/
theorem eat_more (W : List W32) (F b : List Int) :
    eat (eat W F (F.length / 64)) (F.drop (64 * (F.length / 64)) ++ b) ((F.drop (64 * (F.length / 64)) ++ b).length / 64) = eat W (F ++ b) ((F ++ b).length / 64) ∧
    (F.drop (64 * (F.length / 64)) ++ b).drop (64 * ((F.drop (64 * (F.length / 64)) ++ b).length / 64)) = (F ++ b).drop (64 * ((F ++ b).length / 64)) := by
  have hdr : F.drop (64 * (F.length / 64)) ++ b = (F ++ b).drop (64 * (F.length / 64)) := by rw [List.drop_append_of_le_length (by omega)]
  have hq : F.length / 64 + (F.drop (64 * (F.length / 64)) ++ b).length / 64 = (F ++ b).length / 64 := by simp; omega
  constructor
  · rw [← hq, eat_add W (F ++ b), eat_app W F b _ (by omega), ← hdr]
  · rw [← hq, Nat.mul_add, ← List.drop_drop, ← hdr]

def zW : List W32 := List.replicate 8 0#32
theorem z8_eq : z8 = zW.map ofW := by decide

/-- What More answers with. -/
theorem moreS_shape (W : List W32) (r : List Int) (m : Int) (b : List Int) (hW : W.length = 8) (hm : 0 ≤ m ∧ m < 18446744073709551616) (hb : b.length ≤ 100000) (hr : r.length ≤ 100000) :
    ∃ (V : List W32) (q : List Int) (n e : Int), moreS W r m b = ((V.map ofW, (q, (n, ()))), e) ∧ V.length = 8 ∧ q.length < 64 ∧ chk q n = 0 ∧ 0 ≤ n ∧ n < 18446744073709551616 := by
  unfold moreS
  split
  · rename_i h
    obtain ⟨h1, h2⟩ := chk_ok h
    split
    · exact ⟨zW, [], 0, 4, by rw [z8_eq], rfl, by simp, by decide, by omega, by omega⟩
    · refine ⟨eat W (r ++ b) ((r ++ b).length / 64), (r ++ b).drop (64 * ((r ++ b).length / 64)), m + b.length, 0, rfl, eat_len _ _ hW _, by simp; omega, ?_, by omega, by omega⟩
      rw [chk, if_pos ⟨by omega, by simp; omega⟩]
  · exact ⟨zW, [], 0, 8, by rw [z8_eq], rfl, by simp, by decide, by omega, by omega⟩
theorem moreS_code (W : List W32) (r : List Int) (m : Int) (b : List Int) : (moreS W r m b).2 = if chk r m = 0 then (if m + b.length ≥ 72057594037927936 then 4 else 0) else 8 := by
  unfold moreS
  split
  · split <;> rfl
  · rfl

theorem shaComes_any (W : List W32) (r b : List Int) (m : Int) (hW : W.length = 8) (hm : 0 ≤ m ∧ m < 18446744073709551616) : law02_ShaComes ((W.map ofW, (r, (m, ()))), b) = some true := by
  have h8 := map_len hW
  unfold law02_ShaComes
  simp only [Dat.join_eq]
  rw [eight h8]
  by_cases hr : r.length > 1000
  · exact cond_t (decide_eq_true (by simp only [Dat.ofN, Dat.len]; omega)) (cond_t rfl rfl)
  refine cond_f (decide_eq_false (by simp only [Dat.ofN, Dat.len]; omega)) ?_
  by_cases hb : b.length > 1000
  · exact cond_t (by rw [pk_f]; exact decide_eq_true (by simp only [Dat.ofN, Dat.len]; omega)) rfl
  refine cond_f (by rw [pk_f]; exact decide_eq_false (by simp only [Dat.ofN, Dat.len]; omega)) ?_
  refine ite_some (by decide) ?_
  refine ite_none (by simp only [Dat.Big, Dat.len, Dat.seg, List.drop_nil, List.take_nil, List.length_nil]; omega) ?_
  refine bnd_to (y := r) (by simp [Dat.app, Dat.seg]) ?_
  refine ite_some (by decide) ?_
  refine ite_none (by simp only [Dat.Big, Dat.len, Dat.seg, List.drop_nil, List.take_nil, List.length_nil]; omega) ?_
  refine bnd_to (y := b) (by simp [Dat.app, Dat.seg]) ?_
  have eM := sha_More_spec W r b m hW (by omega) (by omega) hm
  have eR := ref02_More_spec W r b m hW (by omega) (by omega) hm
  have eE := sha_End_spec W r m hW (by omega) hm
  have eF := ref02_End_spec W r m hW (by omega) hm
  have eC := sha_Check_spec (W.map ofW) r m hm.1 (by omega)
  have eD := ref02_Check_spec (W.map ofW) r m h8 hm.1 (by omega)
  obtain ⟨V, q, n, e, hS, hV, hq, _, _, _⟩ := moreS_shape W r m b hW hm (by omega) (by omega)
  rw [hS] at eM eR
  refine bind_to eM ?_
  have hV8 := map_len hV
  have eS1 : ∀ x : List Int, ref02_Same ((V.map ofW, (x, (n, ()))), (V.map ofW, (x, (n, ())))) = some true := fun x => ref02_Same_self _ _ _ hV8
  have eS2 : ref02_Same ((W.map ofW, (r, (m, ()))), (W.map ofW, (r, (m, ())))) = some true := ref02_Same_self _ _ _ h8
  have eS3 : ref02_Same ((W0.map ofW, ([], (0, ()))), (W0.map ofW, ([], (0, ())))) = some true := ref02_Same_self _ _ _ (map_len W0_len)
  have hlenE : (endS W r m).1.length = 32 := by unfold endS; split; exact toldW_len _; rfl
  generalize endS W r m = en at *
  obtain ⟨d, ec⟩ := en
  have hd : d.length = 32 := hlenE
  have nd := norm_same hd
  dsimp only
  rw [eight hV8]
  by_cases hz : q.length = 0
  · rw [if_pos (show Dat.EqN (Dat.len q) 0 from hz)]
    refine bind_to eR ?_
    refine bind_to eE ?_
    refine ite_some (by decide) ?_
    refine bind_to eF ?_
    refine ite_some (by decide) ?_
    dsimp only
    rw [eight hV8, nd]
    refine bind_to (eS1 q) ?_
    refine cond_t rfl ?_
    refine cond_t (by rw [pk_t]; exact ieq_self _) ?_
    refine ite_some hd ?_
    refine ite_some hd ?_
    refine cond_t (by rw [pk_t]; exact lq_self _ _) ?_
    refine cond_t (by rw [pk_t]; exact ieq_self _) ?_
    refine bind_to eC ?_
    refine bind_to eD ?_
    refine cond_t (by rw [pk_t]; exact ieq_self _) ?_
    refine bind_to sha_Begin_spec ?_
    refine bind_to ref02_Begin_spec ?_
    dsimp only
    rw [eight (map_len W0_len)]
    refine bind_to eS3 ?_
    refine spoil_nil q hz true _ ?_ _
    refine cond_t rfl ?_
    refine bind_to eS2 ?_
    refine cond_t rfl ?_
    refine bnd_to rfl ?_
    refine bnd_to rfl ?_
    rw [pk_t, seq_self]
  · rw [if_neg (show ¬ Dat.EqN (Dat.len q) 0 from hz)]
    refine bind_to eR ?_
    refine bind_to eE ?_
    refine ite_some (by decide) ?_
    refine bind_to eF ?_
    refine ite_some (by decide) ?_
    dsimp only
    have hseg : Dat.seg q 0 (Dat.len q) = q := by simp [Dat.seg, Dat.len]
    rw [eight hV8, nd, hseg]
    refine ite_some (by simp [Dat.Le, Dat.addN, Dat.len]) ?_
    refine bind_to (eS1 q) ?_
    refine cond_t rfl ?_
    refine cond_t (by rw [pk_t]; exact ieq_self _) ?_
    refine ite_some hd ?_
    refine ite_some hd ?_
    refine cond_t (by rw [pk_t]; exact lq_self _ _) ?_
    refine cond_t (by rw [pk_t]; exact ieq_self _) ?_
    refine bind_to eC ?_
    refine bind_to eD ?_
    refine cond_t (by rw [pk_t]; exact ieq_self _) ?_
    refine bind_to sha_Begin_spec ?_
    refine bind_to ref02_Begin_spec ?_
    dsimp only
    rw [eight (map_len W0_len)]
    refine bind_to eS3 ?_
    refine spoil_ok .u8 q.length q rfl (by omega) true _ ?_
    refine cond_t rfl ?_
    refine bind_to eS2 ?_
    refine cond_t rfl ?_
    refine bnd_to rfl ?_
    refine bnd_to rfl ?_
    rw [pk_t, seq_self]

theorem law02_ShaComes_true (d : Els p_law02_ShaComes.args) (hf : Fits p_law02_ShaComes.args d) : law02_ShaComes d = some true := by
  obtain ⟨⟨X, r, m, ⟨⟩⟩, b⟩ := d
  obtain ⟨⟨⟨hX, hXw⟩, _, hm, _⟩, _⟩ := hf
  obtain ⟨W, hW, rfl⟩ := words_of (X := X) hX (fun x hx => fit_u32 (hXw x hx))
  exact shaComes_any W r b m hW (fit_u64 hm)
end Go.Proofs.YtpmejooihjdapaaDoor
