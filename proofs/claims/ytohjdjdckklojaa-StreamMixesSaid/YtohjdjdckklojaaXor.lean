/- Two texts put together. -/
import Derived.Test.YtohjdjdckklojaaMid
import Derived.Test.YtohjdjdckklojaaFns
namespace Go.Proofs.Ytohjdjdckklojaa
open Go.Eng
set_option linter.unusedVariables false
set_option linter.unusedSimpArgs false

def xorE (a b : List Int) (i : Nat) : Int := Dat.bxor .u8 (a.getD i 0) (b.getD i 0)
def xorL (a b : List Int) : List Int := (List.range a.length).map (xorE a b)
def xorS (a b : List Int) : List Int × Int := if a.length = b.length then (xorL a b, 0) else ([], 2)
theorem xorL_len (a b : List Int) : (xorL a b).length = a.length := by simp [xorL]
theorem range_map_succ (f : Nat → Int) (i : Nat) : (List.range (i + 1)).map f = (List.range i).map f ++ [f i] := by rw [List.range_succ, List.map_append]; rfl

theorem get_at (l : List Int) (i : Nat) : Dat.get l (Dat.toN (i : Int)) 0 = l.getD i 0 := rfl
theorem stream_Xor_spec (a b : List Int) (hl : a.length < 1000000) : stream_Xor (a, b) = some (xorS a b) := by
  unfold stream_Xor xorS
  simp only
  by_cases he : a.length = b.length
  · have e1 : Dat.ine (Dat.ofN (Dat.len a)) (Dat.ofN (Dat.len b)) = false := by simp [Dat.ine, he]
    rw [e1, cond_false, if_pos (show Dat.MkOk 0 (Dat.ofN (Dat.len a)) 1 from Dat.MkOk_iff.2 ⟨by omega, by show (0 : Int) ≤ a.length; omega, by show (a.length : Int) < _; omega, by show (1 : Int) * (a.length : Int) ≤ _; omega⟩), if_pos (show Dat.EqN (Dat.toN 0) 0 from rfl), if_pos (show Dat.EqN 0 (Dat.len ([] : List Int)) from rfl), if_pos he]
    refine loop_inv (fun (s : Int × List Int) => ∃ i : Nat, s.1 = (i : Int) ∧ i ≤ a.length ∧ s.2 = (List.range i).map (xorE a b)) (fun s => a.length - s.1.toNat) ?_ ⟨0, rfl, by omega, rfl⟩ (by show a.length - (0 : Int).toNat < _; omega)
    rintro ⟨si, sl⟩ k ⟨i, rfl, hle, hs⟩ hk
    simp only at hs
    subst hs
    by_cases hi : i < a.length
    · have e2 : Dat.ilt (i : Int) (Dat.ofN (Dat.len a)) = true := by simp [Dat.ilt, hi]
      have c1 : Dat.Ix (i : Int) (Dat.len a) := (Dat.Ix_nat _ _).2 hi
      have c2 : Dat.Ix (i : Int) (Dat.len b) := (Dat.Ix_nat _ _).2 (by show i < b.length; omega)
      have eseg : ∀ x : Int, Dat.seg (x :: ([] : List Int)) 0 1 = [x] := fun _ => rfl
      have hbig : ¬ Dat.Big (Dat.len ((List.range i).map (xorE a b))) (Dat.len [xorE a b i]) 1 := by
        show ¬ (2 ^ 44 < (((List.range i).map (xorE a b)).length + 1) * (1 + 1)); simp; omega
      simp only
      rw [e2, cond_true, if_pos c1, get_at, Dat.bnd_eq, if_pos c2, get_at, Dat.bnd_eq, Dat.bnd_eq]
      rw [if_pos (show Dat.Le (Dat.addN 0 1) (Dat.len (Dat.bxor .u8 (a.getD i 0) (b.getD i 0) :: ([] : List Int))) from Nat.le_refl _), eseg]
      rw [show Dat.bxor .u8 (a.getD i 0) (b.getD i 0) = xorE a b i from rfl, if_neg hbig]
      rw [if_pos True.intro, Dat.bnd_eq, Dat.succ_i64 (by omega), Dat.bnd_eq, if_pos True.intro]
      exact hk _ ⟨i + 1, rfl, by omega, (range_map_succ _ i).symm⟩ (by show a.length - ((i + 1 : Nat) : Int).toNat < a.length - (i : Int).toNat; omega)
    · have e2 : Dat.ilt (i : Int) (Dat.ofN (Dat.len a)) = false := by simp [Dat.ilt]; omega
      have ei : i = a.length := by omega
      subst ei
      simp only
      rw [e2, cond_false]; rfl
  · have e1 : Dat.ine (Dat.ofN (Dat.len a)) (Dat.ofN (Dat.len b)) = true := by simp [Dat.ine]; omega
    rw [e1, cond_true, if_neg he]

theorem ref04_Mixed_spec (a b : List Int) (hl : a.length < 1000000) (he : a.length = b.length) : ref04_Mixed (a, b) = some (xorL a b) := by
  unfold ref04_Mixed
  rw [if_pos (show Dat.EqN 0 (Dat.len ([] : List Int)) from rfl)]
  refine loop_inv (fun (s : List Int × Int) => ∃ i : Nat, s.2 = (i : Int) ∧ i ≤ a.length ∧ s.1 = (List.range i).map (xorE a b)) (fun s => a.length - s.2.toNat) ?_ ⟨0, rfl, by omega, rfl⟩ (by show a.length - (0 : Int).toNat < _; omega)
  rintro ⟨sl, si⟩ k ⟨i, rfl, hle, hs⟩ hk
  simp only at hs
  subst hs
  by_cases hi : i < a.length
  · have e2 : Dat.ilt (i : Int) (Dat.ofN (Dat.len a)) = true := by simp [Dat.ilt, hi]
    have c1 : Dat.Ix (i : Int) (Dat.len a) := (Dat.Ix_nat _ _).2 hi
    have c2 : Dat.Ix (i : Int) (Dat.len b) := (Dat.Ix_nat _ _).2 (by show i < b.length; omega)
    have eseg : ∀ x : Int, Dat.seg (x :: ([] : List Int)) 0 1 = [x] := fun _ => rfl
    have hbig : ¬ Dat.Big (Dat.len ((List.range i).map (xorE a b))) (Dat.len [xorE a b i]) 1 := by
      show ¬ (2 ^ 44 < (((List.range i).map (xorE a b)).length + 1) * (1 + 1)); simp; omega
    simp only
    rw [e2, cond_true, if_pos c1, get_at, Dat.bnd_eq, if_pos c2, get_at, Dat.bnd_eq, Dat.bnd_eq]
    rw [if_pos (show Dat.Le (Dat.addN 0 1) (Dat.len (Dat.bxor .u8 (a.getD i 0) (b.getD i 0) :: ([] : List Int))) from Nat.le_refl _), eseg]
    rw [show Dat.bxor .u8 (a.getD i 0) (b.getD i 0) = xorE a b i from rfl, if_neg hbig]
    rw [if_pos True.intro, Dat.bnd_eq, Dat.succ_i64 (by omega), Dat.bnd_eq, if_pos True.intro]
    exact hk _ ⟨i + 1, rfl, by omega, (range_map_succ _ i).symm⟩ (by show a.length - ((i + 1 : Nat) : Int).toNat < a.length - (i : Int).toNat; omega)
  · have e2 : Dat.ilt (i : Int) (Dat.ofN (Dat.len a)) = false := by simp [Dat.ilt]; omega
    have ei : i = a.length := by omega
    subst ei
    simp only
    rw [e2, cond_false]; rfl

theorem ref04_Xor_spec (a b : List Int) (hl : a.length < 1000000) : ref04_Xor (a, b) = some (xorS a b) := by
  unfold ref04_Xor xorS
  simp only
  by_cases he : a.length = b.length
  · have e1 : Dat.ine (Dat.ofN (Dat.len a)) (Dat.ofN (Dat.len b)) = false := by simp [Dat.ine, he]
    rw [e1, cond_false, ref04_Mixed_spec a b hl he, Dat.bind_some, if_pos he]
  · have e1 : Dat.ine (Dat.ofN (Dat.len a)) (Dat.ofN (Dat.len b)) = true := by simp [Dat.ine]; omega
    rw [e1, cond_true, if_neg he]

/-! ### twice, and either way round -/
theorem u8_bits : IntKind.bits .u8 = 8 := rfl
theorem xor_toInt (a b : Int) : Dat.bxor .u8 a b = (((BitVec.ofInt 8 a ^^^ BitVec.ofInt 8 b).toNat : Nat) : Int) := by
  show IntKind.wrap .u8 ((BitVec.ofInt 8 a ^^^ BitVec.ofInt 8 b).toNat : Int) = _
  have h := (BitVec.ofInt 8 a ^^^ BitVec.ofInt 8 b).isLt
  rw [show IntKind.wrap .u8 (((BitVec.ofInt 8 a ^^^ BitVec.ofInt 8 b).toNat : Nat) : Int) = (((BitVec.ofInt 8 a ^^^ BitVec.ofInt 8 b).toNat : Nat) : Int) % 256 from Dat.wrap_u8 _]
  omega
theorem ofInt_nat8 (x : BitVec 8) : BitVec.ofInt 8 (x.toNat : Int) = x := by
  apply BitVec.eq_of_toNat_eq
  rw [BitVec.toNat_ofInt]
  have := x.isLt
  omega
theorem toNat_byte {a : Int} (h0 : 0 ≤ a) (h1 : a < 256) : (((BitVec.ofInt 8 a).toNat : Nat) : Int) = a := by
  rw [BitVec.toNat_ofInt]; omega
theorem bxor_back {a b : Int} (h0 : 0 ≤ a) (h1 : a < 256) : Dat.bxor .u8 (Dat.bxor .u8 a b) b = a := by
  rw [xor_toInt, xor_toInt, ofInt_nat8, BitVec.xor_assoc, BitVec.xor_self, BitVec.xor_zero, toNat_byte h0 h1]
theorem bxor_comm (a b : Int) : Dat.bxor .u8 a b = Dat.bxor .u8 b a := by
  rw [xor_toInt, xor_toInt, BitVec.xor_comm]
theorem xorL_at {a b : List Int} {i : Nat} (h : i < a.length) : (xorL a b)[i]? = some (xorE a b i) := by simp [xorL, h]
theorem xorL_getD {a b : List Int} {i : Nat} (h : i < a.length) : (xorL a b).getD i 0 = xorE a b i := by rw [List.getD, xorL_at h]; rfl
theorem xor_twice {a b : List Int} (hb : ∀ x ∈ a, 0 ≤ x ∧ x < 256) : xorL (xorL a b) b = a := by
  apply List.ext_getElem?
  intro i
  by_cases hi : i < a.length
  · rw [xorL_at (by rw [xorL_len]; exact hi), List.getElem?_eq_getElem hi]
    unfold xorE
    rw [xorL_getD hi]
    unfold xorE
    have e : a.getD i 0 = a[i] := by simp [List.getD, hi]
    rw [e]
    have := hb _ (List.getElem_mem hi)
    rw [bxor_back this.1 this.2]
  · rw [List.getElem?_eq_none (by rw [xorL_len, xorL_len]; omega), List.getElem?_eq_none (by omega)]
theorem xor_round {a b : List Int} (h : a.length = b.length) : xorL b a = xorL a b := by
  unfold xorL
  rw [h]
  apply List.map_congr_left
  intro i _
  exact bxor_comm _ _
end Go.Proofs.Ytohjdjdckklojaa
