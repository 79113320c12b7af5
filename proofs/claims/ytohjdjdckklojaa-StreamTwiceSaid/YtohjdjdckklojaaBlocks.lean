/- Blocks: what they are. -/
import Derived.Test.YtohjdjdckklojaaWords
namespace Go.Proofs.Ytohjdjdckklojaa
open Go.Eng
set_option linter.unusedVariables false
set_option linter.unusedSimpArgs false

noncomputable def dblN (w : List Int) : Nat → List Int
  | 0 => w
  | n + 1 => Dat.norm 16 (dbl (dblN w n)) 0
theorem dblN_len {w : List Int} (h : w.length = 16) : ∀ n, (dblN w n).length = 16
  | 0 => h
  | n + 1 => norm_len 16 _
noncomputable def sumW (w f : List Int) (i : Nat) : Int := Dat.wrap .u32 (Dat.add (w.getD i 0) (f.getD i 0))
noncomputable def byteB (w f : List Int) (k : Nat) : Int := Dat.wrap .u8 (Dat.shr .u32 (sumW w f (k / 4)) ((8 * (k % 4) : Nat) : Int))
noncomputable def blkS (w f : List Int) : List Int := (List.range 64).map (byteB w f)
noncomputable def firstW (k : List Int) (c : Int) (n : List Int) : List Int := Dat.norm 16 (wds (Dat.norm 32 k 0, c, Dat.norm 12 n 0)) 0
noncomputable def lastW (k : List Int) (c : Int) (n : List Int) : List Int := dblN (Dat.norm 16 (firstW k c n) 0) 10
noncomputable def blockS (k : List Int) (c : Int) (n : List Int) : List Int := blkS (lastW k c n) (firstW k c n)

theorem blk_full {w f out : List Int} (hl : out.length = 64) (h : ∀ k, k < 64 → out[k]? = some (byteB w f k)) : Dat.norm 64 out 0 = blkS w f := by
  rw [norm_id hl]
  apply List.ext_getElem?
  intro i
  by_cases hi : i < 64
  · rw [h i hi]; simp [blkS, hi]
  · rw [List.getElem?_eq_none (by omega), List.getElem?_eq_none (by simp [blkS]; omega)]

theorem ilt_t {i n : Nat} (h : i < n) : Dat.ilt (i : Int) (n : Int) = true := by simp [Dat.ilt, h]
theorem ilt_f {i n : Nat} (h : ¬ i < n) : Dat.ilt (i : Int) (n : Int) = false := by simp [Dat.ilt]; omega
theorem In_nat {i n : Nat} (h : i < n) : Dat.In (i : Int) n := ⟨by omega, by omega⟩
theorem mul_i64 {a b : Nat} (h : a * b ≤ 9223372036854775807) : Dat.wrap .i64 (Dat.mul (a : Int) (b : Int)) = ((a * b : Nat) : Int) := by
  have e : Dat.mul (a : Int) (b : Int) = ((a * b : Nat) : Int) := by simp [Dat.mul]
  rw [e, Dat.wrap_i64] <;> omega
theorem add_i64 {a b : Nat} (h : a + b ≤ 9223372036854775807) : Dat.wrap .i64 (Dat.add (a : Int) (b : Int)) = ((a + b : Nat) : Int) := by
  have e : Dat.add (a : Int) (b : Int) = ((a + b : Nat) : Int) := by simp [Dat.add]
  rw [e, Dat.wrap_i64] <;> omega
theorem tdiv_i64 {a b : Nat} (h : a ≤ 9223372036854775807) : Dat.wrap .i64 (Dat.tdiv (a : Int) (b : Int)) = ((a / b : Nat) : Int) := by
  have e : Dat.tdiv (a : Int) (b : Int) = ((a / b : Nat) : Int) := Int.ofNat_tdiv a b
  have : a / b ≤ a := Nat.div_le_self a b
  rw [e]
  generalize a / b = q at *
  rw [Dat.wrap_i64] <;> omega
theorem tmod_nat (a b : Nat) : Dat.tmod (a : Int) (b : Int) = ((a % b : Nat) : Int) := Int.ofNat_tmod a b

theorem chacha_Block_spec (k : List Int) (c : Int) (n : List Int) : chacha_Block (k, c, n) = some (blockS k c n) := by
  unfold chacha_Block blockS
  simp only [if_pos (norm_EqN _ _), if_pos (rep_EqN _), if_pos (repN_EqN _), chacha_Words, Dat.bind_some]
  show Dat.loop _ (0, Dat.norm 16 (firstW k c n) 0) = _
  have hF : (firstW k c n).length = 16 := norm_len 16 _
  have e0 : Dat.norm 16 (wds (Dat.norm 32 k 0, c, Dat.norm 12 n 0)) 0 = firstW k c n := rfl
  simp only [e0]
  have hW0 : (Dat.norm 16 (firstW k c n) 0).length = 16 := norm_len 16 _
  unfold lastW
  generalize Dat.norm 16 (firstW k c n) 0 = w0 at *
  generalize firstW k c n = f at *
  have hWl := dblN_len hW0
  refine loop_inv (fun (s : Int × List Int) => ∃ i : Nat, s.1 = (i : Int) ∧ i ≤ 10 ∧ s.2 = dblN w0 i) (fun s => 10 - s.1.toNat) ?_ ⟨0, rfl, by omega, rfl⟩ (by simp)
  rintro ⟨si, sw⟩ kk ⟨i, rfl, hi, rfl⟩ hk
  by_cases hlt : i < 10
  · have e1 : Dat.ilt (i : Int) 10 = true := ilt_t (n := 10) hlt
    have e2 : Dat.EqN (Dat.len (dblN w0 i)) 16 := hWl i
    simp only [e1, cond_true, if_pos e2, chacha_Double, Dat.bind_some, Dat.bnd_eq]
    rw [Dat.succ_i64 (by omega)]
    exact hk (((i + 1 : Nat) : Int), dblN w0 (i + 1)) ⟨i + 1, rfl, hlt, rfl⟩ (by show 10 - ((i + 1 : Nat) : Int).toNat < 10 - (i : Int).toNat; omega)
  · have e1 : Dat.ilt (i : Int) 10 = false := ilt_f (n := 10) hlt
    have ei : i = 10 := by omega
    subst ei
    simp only [e1, cond_false]
    have hW := hWl 10
    generalize dblN w0 10 = w at *
    refine loop_inv (fun (s : Int × List Int) => ∃ i : Nat, s.1 = (i : Int) ∧ i ≤ 16 ∧ s.2.length = 64 ∧ ∀ k, k < 4 * i → s.2[k]? = some (byteB w f k)) (fun s => 16 - s.1.toNat) ?_ ⟨0, rfl, by omega, by simp [Dat.rep], by omega⟩ (by simp)
    rintro ⟨si, out⟩ kk ⟨i, rfl, hi, hl, hb⟩ hk
    replace hl : out.length = 64 := hl
    replace hb : ∀ k, k < 4 * i → out[k]? = some (byteB w f k) := hb
    by_cases hlt : i < 16
    · have e1 : Dat.ilt (i : Int) 16 = true := ilt_t (n := 16) hlt
      have c1 : Dat.In (i : Int) 16 := In_nat (n := 16) hlt
      have c2 : Dat.Lt (Dat.toN (i : Int)) (Dat.len w) := by show (i : Int).toNat < w.length; simp; omega
      have c3 : Dat.Lt (Dat.toN (i : Int)) (Dat.len f) := by show (i : Int).toNat < f.length; simp; omega
      have g1 : ∀ l : List Int, Dat.get l (Dat.toN (i : Int)) 0 = l.getD i 0 := fun l => rfl
      simp only [e1, cond_true, if_pos c1, if_pos c2, if_pos c3, Dat.bnd_eq, g1]
      refine loop_inv (fun (s : Int × List Int) => ∃ j : Nat, s.1 = (j : Int) ∧ j ≤ 4 ∧ s.2.length = 64 ∧ ∀ k, k < 4 * i + j → s.2[k]? = some (byteB w f k)) (fun s => 4 - s.1.toNat) ?_ ⟨0, rfl, by omega, hl, by simpa using hb⟩ (by simp)
      rintro ⟨sj, o2⟩ k2 ⟨j, rfl, hj, hl2, hb2⟩ hk2
      replace hl2 : o2.length = 64 := hl2
      replace hb2 : ∀ k, k < 4 * i + j → o2[k]? = some (byteB w f k) := hb2
      by_cases hlt2 : j < 4
      · have e2 : Dat.ilt (j : Int) 4 = true := ilt_t (n := 4) hlt2
        have m1 : Dat.wrap .i64 (Dat.mul 4 (i : Int)) = ((4 * i : Nat) : Int) := mul_i64 (a := 4) (by omega)
        have m2 : Dat.wrap .i64 (Dat.add ((4 * i : Nat) : Int) (j : Int)) = ((4 * i + j : Nat) : Int) := add_i64 (by omega)
        have m3 : Dat.wrap .i64 (Dat.mul 8 (j : Int)) = ((8 * j : Nat) : Int) := mul_i64 (a := 8) (by omega)
        have n1 : ¬ Dat.Neg ((8 * j : Nat) : Int) := by show ¬ (((8 * j : Nat) : Int) < 0); omega
        have c4 : Dat.In ((4 * i + j : Nat) : Int) 64 := In_nat (n := 64) (by omega)
        have c5 : Dat.Lt (Dat.toN ((4 * i + j : Nat) : Int)) (Dat.len o2) := by show ((4 * i + j : Nat) : Int).toNat < o2.length; omega
        simp only [e2, cond_true, Dat.bnd_eq, m1, m2, m3, if_neg n1, if_pos c4, if_pos c5]
        rw [Dat.succ_i64 (by omega)]
        have hv : Dat.wrap .u8 (Dat.shr .u32 (Dat.wrap .u32 (Dat.add (w.getD i 0) (f.getD i 0))) ((8 * j : Nat) : Int)) = byteB w f (4 * i + j) := by
          have h1 : (4 * i + j) / 4 = i := by omega
          have h2 : (4 * i + j) % 4 = j := by omega
          unfold byteB sumW; rw [h1, h2]
        rw [hv]
        refine hk2 (((j + 1 : Nat) : Int), o2.set (4 * i + j) (byteB w f (4 * i + j))) ⟨j + 1, rfl, hlt2, by rw [List.length_set]; exact hl2, fun k hk' => ?_⟩ (by show 4 - ((j + 1 : Nat) : Int).toNat < 4 - (j : Int).toNat; omega)
        show (o2.set (4 * i + j) (byteB w f (4 * i + j)))[k]? = _
        by_cases hkk : k = 4 * i + j
        · subst hkk; rw [List.getElem?_set_self (by omega)]
        · rw [List.getElem?_set_ne (by omega)]; exact hb2 k (by omega)
      · have e2 : Dat.ilt (j : Int) 4 = false := ilt_f (n := 4) hlt2
        simp only [e2, cond_false, Dat.bnd_eq]
        rw [Dat.succ_i64 (by omega)]
        exact hk (((i + 1 : Nat) : Int), o2) ⟨i + 1, rfl, hlt, hl2, fun k hk' => hb2 k (by omega)⟩ (by show 16 - ((i + 1 : Nat) : Int).toNat < 16 - (i : Int).toNat; omega)
    · have e1 : Dat.ilt (i : Int) 16 = false := ilt_f (n := 16) hlt
      have c6 : Dat.EqN (Dat.len out) 64 := hl
      simp only [e1, cond_false, if_pos c6, if_pos (rep_EqN _), if_pos (repN_EqN _), if_pos (norm_EqN _ _)]
      rw [blk_full hl fun k hk' => hb k (by omega)]

theorem ref03_Block_spec (k : List Int) (c : Int) (n : List Int) : ref03_Block (k, c, n) = some (blockS k c n) := by
  unfold ref03_Block blockS
  simp only [if_pos (norm_EqN _ _), if_pos (rep_EqN _), if_pos (repN_EqN _), ref03_Words, Dat.bind_some]
  show Dat.loop _ (0, Dat.norm 16 (firstW k c n) 0) = _
  have hF : (firstW k c n).length = 16 := norm_len 16 _
  have e0 : Dat.norm 16 (wds (Dat.norm 32 k 0, c, Dat.norm 12 n 0)) 0 = firstW k c n := rfl
  simp only [e0]
  have hW0 : (Dat.norm 16 (firstW k c n) 0).length = 16 := norm_len 16 _
  unfold lastW
  generalize Dat.norm 16 (firstW k c n) 0 = w0 at *
  generalize firstW k c n = f at *
  have hWl := dblN_len hW0
  refine loop_inv (fun (s : Int × List Int) => ∃ i : Nat, s.1 = (i : Int) ∧ i ≤ 10 ∧ s.2 = dblN w0 i) (fun s => 10 - s.1.toNat) ?_ ⟨0, rfl, by omega, rfl⟩ (by simp)
  rintro ⟨si, sw⟩ kk ⟨i, rfl, hi, rfl⟩ hk
  by_cases hlt : i < 10
  · have e1 : Dat.ilt (i : Int) 10 = true := ilt_t (n := 10) hlt
    have e2 : Dat.EqN (Dat.len (dblN w0 i)) 16 := hWl i
    simp only [e1, cond_true, if_pos e2, ref03_Double, Dat.bind_some, Dat.bnd_eq]
    rw [Dat.succ_i64 (by omega)]
    exact hk (((i + 1 : Nat) : Int), dblN w0 (i + 1)) ⟨i + 1, rfl, hlt, rfl⟩ (by show 10 - ((i + 1 : Nat) : Int).toNat < 10 - (i : Int).toNat; omega)
  · have e1 : Dat.ilt (i : Int) 10 = false := ilt_f (n := 10) hlt
    have ei : i = 10 := by omega
    subst ei
    simp only [e1, cond_false]
    have hW := hWl 10
    generalize dblN w0 10 = w at *
    refine loop_inv (fun (s : Int × List Int) => ∃ i : Nat, s.1 = (i : Int) ∧ i ≤ 64 ∧ s.2.length = 64 ∧ ∀ k, k < i → s.2[k]? = some (byteB w f k)) (fun s => 64 - s.1.toNat) ?_ ⟨0, rfl, by omega, by simp [Dat.rep], by omega⟩ (by simp)
    rintro ⟨si, out⟩ kk ⟨i, rfl, hi, hl, hb⟩ hk
    replace hl : out.length = 64 := hl
    replace hb : ∀ k, k < i → out[k]? = some (byteB w f k) := hb
    by_cases hlt : i < 64
    · have e1 : Dat.ilt (i : Int) 64 = true := ilt_t (n := 64) hlt
      have z4 : ¬ Dat.IsZ 4 := by show ¬ ((4 : Int) = 0); omega
      have d1 : Dat.wrap .i64 (Dat.tdiv (i : Int) 4) = ((i / 4 : Nat) : Int) := tdiv_i64 (b := 4) (by omega)
      have d2 : Dat.tmod (i : Int) 4 = ((i % 4 : Nat) : Int) := tmod_nat i 4
      have m3 : Dat.wrap .i64 (Dat.mul 8 ((i % 4 : Nat) : Int)) = ((8 * (i % 4) : Nat) : Int) := mul_i64 (a := 8) (by omega)
      have m4 : Dat.wrap .u64 ((8 * (i % 4) : Nat) : Int) = ((8 * (i % 4) : Nat) : Int) := by rw [Dat.wrap_u64]; omega
      have n1 : ¬ Dat.Neg ((8 * (i % 4) : Nat) : Int) := by show ¬ (((8 * (i % 4) : Nat) : Int) < 0); omega
      have c1 : Dat.In ((i / 4 : Nat) : Int) 16 := In_nat (n := 16) (by omega)
      have c2 : Dat.Lt (Dat.toN ((i / 4 : Nat) : Int)) (Dat.len w) := by show ((i / 4 : Nat) : Int).toNat < w.length; omega
      have c3 : Dat.Lt (Dat.toN ((i / 4 : Nat) : Int)) (Dat.len f) := by show ((i / 4 : Nat) : Int).toNat < f.length; omega
      have c4 : Dat.In (i : Int) 64 := In_nat (n := 64) hlt
      have c5 : Dat.Lt (Dat.toN (i : Int)) (Dat.len out) := by show (i : Int).toNat < out.length; omega
      have g1 : ∀ l : List Int, Dat.get l (Dat.toN ((i / 4 : Nat) : Int)) 0 = l.getD (i / 4) 0 := fun l => rfl
      simp only [e1, cond_true, if_neg z4, d1, d2, m3, m4, if_neg n1, if_pos c1, if_pos c2, if_pos c3, if_pos c4, if_pos c5, Dat.bnd_eq, g1]
      rw [Dat.succ_i64 (by omega)]
      refine hk (((i + 1 : Nat) : Int), out.set i (byteB w f i)) ⟨i + 1, rfl, hlt, by rw [List.length_set]; exact hl, fun k hk' => ?_⟩ (by show 64 - ((i + 1 : Nat) : Int).toNat < 64 - (i : Int).toNat; omega)
      show (out.set i (byteB w f i))[k]? = _
      by_cases hkk : k = i
      · subst hkk; rw [List.getElem?_set_self (by omega)]
      · rw [List.getElem?_set_ne (by omega)]; exact hb k (by omega)
    · have e1 : Dat.ilt (i : Int) 64 = false := ilt_f (n := 64) hlt
      have c6 : Dat.EqN (Dat.len out) 64 := hl
      simp only [e1, cond_false, if_pos c6, if_pos (rep_EqN _), if_pos (repN_EqN _), if_pos (norm_EqN _ _)]
      rw [blk_full hl fun k hk' => hb k (by omega)]
end Go.Proofs.Ytohjdjdckklojaa
