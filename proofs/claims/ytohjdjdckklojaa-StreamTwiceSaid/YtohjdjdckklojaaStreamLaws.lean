/- The statements about streams answer true. -/
import Derived.Test.YtohjdjdckklojaaStreamZ
import Derived.Test.YtohjdjdckklojaaXor
import Derived.Test.YtohjdjdckklojaaTake
import Derived.Test.YtohjdjdckklojaaSame
namespace Go.Proofs.Ytohjdjdckklojaa
open Go.Eng
set_option linter.unusedVariables false
set_option linter.unusedSimpArgs false

theorem p_tt : Dat.pickB true true false = true := rfl
theorem same_self (l : List Int) : ref01_Same (l, l) = some true := by rw [ref01_Same_spec, decide_eq_true rfl]
theorem q_self (x : Int) : Dat.ieq x x = true := by simp [Dat.ieq]
theorem xor12 : stream_Xor ([1, 2], [3, 3]) = some ([2, 1], 0) := by
  rw [stream_Xor_spec _ _ (by decide)]; rfl
theorem nonce258 : stream_Nonce 258 = some [0, 0, 0, 0, 2, 1, 0, 0, 0, 0, 0, 0] := by
  rw [stream_Nonce_spec 258 (by omega) (by omega)]; rfl

theorem alive04 : law04_alive () = some true := by
  unfold law04_alive
  have hO : stream_Of (zeros32, 0, 4) = some ([118, 184, 224, 173], 0) := by rw [stream_Of_spec _ _ _ (by omega) (by omega), ofZ]
  have s1 : Dat.seg (1 :: (2 :: ([] : List Int))) 0 2 = [1, 2] := rfl
  have s2 : Dat.seg (3 :: (3 :: ([] : List Int))) 0 2 = [3, 3] := rfl
  have s3 : Dat.seg (118 :: (184 :: (224 :: (173 :: ([] : List Int))))) 0 4 = [118, 184, 224, 173] := rfl
  have s4 : Dat.seg (2 :: (1 :: ([] : List Int))) 0 2 = [2, 1] := rfl
  have c2 : ∀ a b : Int, Dat.Le (Dat.addN 0 2) (Dat.len (a :: (b :: ([] : List Int)))) := fun a b => Nat.le_refl _
  have c4 : ∀ a b c d : Int, Dat.Le (Dat.addN 0 4) (Dat.len (a :: (b :: (c :: (d :: ([] : List Int)))))) := fun a b c d => Nat.le_refl _
  refine (Dat.bind_eq hO _).trans ?_
  rw [if_pos (c2 1 2), if_pos (c2 3 3), s1, s2]
  rw [xor12, Dat.bind_some, nonce258, Dat.bind_some]
  simp only
  rw [q_self 0, p_tt, if_pos (c4 118 184 224 173), s3, same_self, Dat.bind_some, if_pos (c2 2 1), s4, same_self, Dat.bind_some]
  rfl

theorem nonceS_apart {a b : Int} (a0 : 0 ≤ a) (a1 : a < 18446744073709551616) (b0 : 0 ≤ b) (b1 : b < 18446744073709551616) : Dat.lq 12 (nonceS a) (nonceS b) = decide (a = b) := by
  rw [Bool.eq_iff_iff, lq_iff, decide_eq_true_eq]
  constructor
  · intro h
    have hl : nonceS a = nonceS b := by
      apply List.ext_getElem?
      intro i
      by_cases hi : i < 12
      · have := h i hi
        rw [List.getElem?_eq_getElem (by rw [nonceS_len]; exact hi), List.getElem?_eq_getElem (by rw [nonceS_len]; exact hi)]
        have e1 : (nonceS a).getD i 0 = (nonceS a)[i]'(by rw [nonceS_len]; exact hi) := by simp [List.getD, nonceS_len, hi]
        have e2 : (nonceS b).getD i 0 = (nonceS b)[i]'(by rw [nonceS_len]; exact hi) := by simp [List.getD, nonceS_len, hi]
        rw [← e1, ← e2, this]
      · rw [List.getElem?_eq_none (by rw [nonceS_len]; omega), List.getElem?_eq_none (by rw [nonceS_len]; omega)]
    have hd : digs a 8 = digs b 8 := List.append_cancel_left hl
    have z : ∀ n : Int, 0 ≤ n → n < 18446744073709551616 → n / 256 ^ 8 = 0 := fun n h0 h1 => by rw [pow8_eq]; omega
    have := congrArg val hd
    rwa [val_digs a0 (z a a0 a1), val_digs b0 (z b b0 b1)] at this
  · intro h; subst h; intro i _; rfl

theorem law04_StreamApart_true (d : Els p_law04_StreamApart.args) (hf : Fits p_law04_StreamApart.args d) : law04_StreamApart d = some true := by
  obtain ⟨a, b⟩ := d
  obtain ⟨f1, f2⟩ := hf
  obtain ⟨a0, a1⟩ := fit_u64 f1
  obtain ⟨b0, b1⟩ := fit_u64 f2
  unfold law04_StreamApart
  rw [alive04, Dat.bind_some, cond_true]
  simp only
  rw [stream_Nonce_spec a a0 a1, Dat.bind_some, stream_Nonce_spec b b0 b1, Dat.bind_some, nonceS_apart a0 a1 b0 b1]
  by_cases h : a = b
  · subst h; rw [decide_eq_true rfl, q_self]; rfl
  · have e : Dat.ieq a b = false := by simp [Dat.ieq, h]
    rw [decide_eq_false h, e]; rfl

theorem law04_StreamTells_true (d : Els p_law04_StreamTells.args) (hf : Fits p_law04_StreamTells.args d) : law04_StreamTells d = some true := by
  obtain ⟨k, n, m⟩ := d
  obtain ⟨_, f2, _⟩ := hf
  obtain ⟨a0, a1⟩ := fit_u64 f2
  unfold law04_StreamTells
  simp only
  rw [if_pos (norm_EqN 32 k), stream_Of_spec _ _ _ a0 a1, Dat.bind_some, if_pos (norm_EqN 32 k), ref04_Of_spec _ _ _ a0 a1, Dat.bind_some, same_self, Dat.bind_some, cond_true, q_self, p_tt, cond_true, stream_Nonce_spec n a0 a1, Dat.bind_some, ref04_Nonce_spec n a0 a1, Dat.bind_some, lq_self]
  rfl

theorem goesOn_any (k : List Int) (n a b : Int) (a0 : 0 ≤ n) (a1 : n < 18446744073709551616) : law04_StreamGoesOn (k, n, a, b) = some true := by
  unfold law04_StreamGoesOn
  rw [alive04, Dat.bind_some]
  simp only
  rw [if_pos (norm_EqN 32 k), stream_Of_spec _ _ _ a0 a1, Dat.bind_some, if_pos (norm_EqN 32 k), stream_Of_spec _ _ _ a0 a1, Dat.bind_some, norm_norm]
  generalize Dat.norm 32 k 0 = kk
  have z0 : Dat.ine 0 0 = false := rfl
  have z4 : Dat.ine 4 0 = true := rfl
  have q4 : Dat.ieq 4 0 = false := rfl
  have n0 : Dat.ieq (Dat.ofN (Dat.len ([] : List Int))) 0 = true := rfl
  by_cases ha : a < 0 ∨ a > 2048
  · have e : ofS kk n a = ([], 4) := by unfold ofS; rw [if_pos ha]
    rw [e]
    simp only
    rw [z4, cond_true, cond_true, q4, cond_false, n0]; rfl
  · have ea : (ofS kk n a).2 = 0 := by unfold ofS; rw [if_neg ha]
    rw [ea, z0, cond_false, q_self, cond_true]
    by_cases hb : b < 0 ∨ b > 2048
    · have e : (ofS kk n b).2 = 4 := by unfold ofS; rw [if_pos hb]
      rw [e, z4]; rfl
    · have eb : (ofS kk n b).2 = 0 := by unfold ofS; rw [if_neg hb]
      have p0 : Dat.pickB false true false = false := rfl
      rw [eb, z0, p0, cond_false]
      by_cases hab : a > b
      · have : Dat.igt a b = true := by simp [Dat.igt, hab]
        rw [this]; rfl
      · have : Dat.igt a b = false := by simp [Dat.igt]; omega
        have la := ofS_len (k := kk) (n := n) (m := a) (by omega) (by omega)
        have lb := ofS_len (k := kk) (n := n) (m := b) (by omega) (by omega)
        have ra : Dat.ieq (Dat.ofN (Dat.len (ofS kk n a).1)) a = true := by simp [Dat.ieq, la]
        have rb : Dat.ieq (Dat.ofN (Dat.len (ofS kk n b).1)) b = true := by simp [Dat.ieq, lb]
        have cb : Dat.Bd a (Dat.len (ofS kk n b).1) := ⟨by omega, by show a ≤ ((ofS kk n b).1.length : Int); omega⟩
        have es : Dat.slice (ofS kk n b).1 0 (Dat.toN a) = (ofS kk n a).1 := by
          unfold ofS
          rw [if_neg ha, if_neg hb]
          show (((flow kk n 40).take b.toNat).take a.toNat).drop 0 = _
          rw [List.drop_zero, List.take_take, Nat.min_eq_left (by omega)]
        rw [this, p0, cond_false, cond_true, ra, p_tt, cond_true, rb, p_tt, cond_true, if_pos cb, es, Dat.bnd_eq, same_self, Dat.bind_some]
        rfl

theorem law04_StreamGoesOn_true (d : Els p_law04_StreamGoesOn.args) (hf : Fits p_law04_StreamGoesOn.args d) : law04_StreamGoesOn d = some true := by
  obtain ⟨k, n, a, b⟩ := d
  obtain ⟨_, f2, _⟩ := hf
  obtain ⟨a0, a1⟩ := fit_u64 f2
  exact goesOn_any k n a b a0 a1

theorem law04_StreamTwice_true (d : Els p_law04_StreamTwice.args) (hf : Fits p_law04_StreamTwice.args d) : law04_StreamTwice d = some true := by
  obtain ⟨b, k, n⟩ := d
  obtain ⟨⟨_, f1⟩, _, f2⟩ := hf
  obtain ⟨a0, a1⟩ := fit_u64 f2
  have hB : ∀ x ∈ b, (0 : Int) ≤ x ∧ x < 256 := fun x hx => fit_u8 (f1 x hx)
  unfold law04_StreamTwice
  rw [alive04, Dat.bind_some]
  simp only
  by_cases hlen : b.length > 2048
  · have : Dat.igt (Dat.ofN (Dat.len b)) 2048 = true := by simp [Dat.igt]; omega
    rw [this, cond_true]
  · have e0 : Dat.igt (Dat.ofN (Dat.len b)) 2048 = false := by simp [Dat.igt]; omega
    have p0 : Dat.pickB false true (Dat.bnot true) = false := rfl
    rw [e0, cond_false, p0, cond_false, if_pos (norm_EqN 32 k), stream_Of_spec _ _ _ a0 a1, Dat.bind_some, norm_norm]
    have ls := ofS_len (k := Dat.norm 32 k 0) (n := n) (m := Dat.ofN (Dat.len b)) (by show (0 : Int) ≤ b.length; omega) (by show (b.length : Int) ≤ 2048; omega)
    have es : (ofS (Dat.norm 32 k 0) n (Dat.ofN (Dat.len b))).2 = 0 := by unfold ofS; rw [if_neg (by show ¬ ((b.length : Int) < 0 ∨ (b.length : Int) > 2048); omega)]
    generalize ofS (Dat.norm 32 k 0) n (Dat.ofN (Dat.len b)) = s at *
    obtain ⟨s, e⟩ := s
    simp only at ls es
    subst es
    have hs : b.length = s.length := by
      have : (s.length : Int) = (b.length : Int) := ls
      omega
    have x1 : stream_Xor (b, s) = some (xorL b s, 0) := by rw [stream_Xor_spec b s (by omega)]; unfold xorS; rw [if_pos hs]
    have x2 : stream_Xor (xorL b s, s) = some (b, 0) := by rw [stream_Xor_spec _ s (by rw [xorL_len]; omega)]; unfold xorS; rw [if_pos (by rw [xorL_len]; exact hs), xor_twice hB]
    have x3 : stream_Xor (s, b) = some (xorL b s, 0) := by rw [stream_Xor_spec s b (by omega)]; unfold xorS; rw [if_pos hs.symm, xor_round hs]
    simp only
    rw [x1, Dat.bind_some]
    simp only
    rw [x2, Dat.bind_some, x3, Dat.bind_some]
    simp only
    rw [cond_true, q_self, p_tt, cond_true, cond_true, cond_true, cond_true, same_self, Dat.bind_some, p_tt, cond_true, same_self, Dat.bind_some]
    rfl

theorem law04_StreamNames_true (d : Els p_law04_StreamNames.args) (hf : Fits p_law04_StreamNames.args d) : law04_StreamNames d = some true := by
  unfold law04_StreamNames
  have s1 : Dat.seg (1 :: ([] : List Int)) 0 1 = [1] := rfl
  have hx : stream_Xor ([1], []) = some ([], 2) := by rw [stream_Xor_spec _ _ (by decide)]; rfl
  have o1 : stream_Of (zeros32, 0, 2049) = some ([], 4) := by rw [stream_Of_spec _ _ _ (by omega) (by omega)]; unfold ofS; rw [if_pos (by omega)]
  have o2 : stream_Of (zeros32, 0, (-1)) = some ([], 4) := by rw [stream_Of_spec _ _ _ (by omega) (by omega)]; unfold ofS; rw [if_pos (by omega)]
  have o3 : ∃ l : List Int, stream_Of (zeros32, 0, 2048) = some (l, 0) ∧ l.length = 2048 := by
    refine ⟨(flow (Dat.norm 32 zeros32 0) 0 40).take 2048, ?_, by rw [List.length_take, flow_len]; omega⟩
    rw [stream_Of_spec _ _ _ (by omega) (by omega)]
    unfold ofS
    rw [if_neg (by omega)]; rfl
  have o4 : stream_Of (zeros32, 0, 0) = some ([], 0) := by rw [stream_Of_spec _ _ _ (by omega) (by omega)]; unfold ofS; rw [if_neg (by omega)]; rfl
  obtain ⟨l, o3, hl⟩ := o3
  rw [if_pos (show Dat.Le (Dat.addN 0 1) (Dat.len ((1 : Int) :: ([] : List Int))) from Nat.le_refl _), s1, hx, Dat.bind_some]
  refine (Dat.bind_eq o1 _).trans ?_
  refine (Dat.bind_eq o2 _).trans ?_
  refine (Dat.bind_eq o3 _).trans ?_
  refine (Dat.bind_eq o4 _).trans ?_
  have e : Dat.ieq (Dat.ofN (Dat.len l)) 2048 = true := by simp [Dat.ieq, hl]
  rw [alive04, Dat.bind_some]
  simp only
  rw [e]
  rfl
end Go.Proofs.Ytohjdjdckklojaa
