/- ChachaTold answers true. -/
import Derived.Test.YtjfiojmfcpeaoaaBlocks
namespace Go.Proofs.Ytjfiojmfcpeaoaa
open Go.Eng
set_option linter.unusedVariables false
set_option linter.unusedSimpArgs false

theorem sumW_isW (w f : List Int) (i : Nat) : 0 ≤ sumW w f i ∧ sumW w f i < 4294967296 := by
  unfold sumW; rw [Dat.wrap_u32]; omega

theorem byteB_eq (w f : List Int) (i j : Nat) (hj : j < 4) : byteB w f (4 * i + j) = sumW w f i / (256 ^ j) % 256 := by
  have h1 : (4 * i + j) / 4 = i := by omega
  have h2 : (4 * i + j) % 4 = j := by omega
  unfold byteB
  rw [h1, h2]
  have h3 := sumW_isW w f i
  generalize sumW w f i = s at *
  rw [Dat.wrap_u8]
  show (Int.fdiv s (2 ^ (min (((8 * j : Nat) : Int)).toNat 32))) % 256 = _
  have h4 : min (((8 * j : Nat) : Int)).toNat 32 = 8 * j := by omega
  rw [h4, Int.pow_mul]
  rw [Int.fdiv_eq_ediv_of_nonneg _ (Int.pow_nonneg (by decide))]
  rfl

theorem told_word (w f : List Int) (i : Nat) : wd (byteB w f (4 * i)) (byteB w f (4 * i + 1)) (byteB w f (4 * i + 2)) (byteB w f (4 * i + 3)) = sumW w f i := by
  have h3 := sumW_isW w f i
  have b0 : byteB w f (4 * i) = sumW w f i % 256 := by have := byteB_eq w f i 0 (by omega); simpa using this
  have b1 := byteB_eq w f i 1 (by omega)
  have b2 := byteB_eq w f i 2 (by omega)
  have b3 := byteB_eq w f i 3 (by omega)
  simp only [Int.pow_succ, Int.pow_zero, Int.one_mul] at b1 b2 b3
  rw [b0, b1, b2, b3]
  generalize sumW w f i = s at *
  rw [wd_eq ⟨by omega, by omega⟩ ⟨by omega, by omega⟩ ⟨by omega, by omega⟩ ⟨by omega, by omega⟩]
  omega

theorem told_back (w f : List Int) (i : Nat) (hf : 0 ≤ f.getD i 0 ∧ f.getD i 0 < 4294967296) : Dat.wrap .u32 (Dat.sub (sumW w f i) (w.getD i 0)) = f.getD i 0 := by
  unfold sumW
  rw [Dat.wrap_u32, Dat.wrap_u32]
  simp only [Dat.sub_eq, Dat.add_eq]
  omega

theorem wds_isW (k n : List Int) (c : Int) (hc : 0 ≤ c ∧ c < 4294967296) (hk : bytesOk k) (hn : bytesOk n) {i : Nat} (hi : i < 16) : 0 ≤ (wds (k, c, n)).getD i 0 ∧ (wds (k, c, n)).getD i 0 < 4294967296 := by
  have wb : ∀ {l : List Int} (h : bytesOk l) (j : Nat), 0 ≤ wd (l.getD (4 * j) 0) (l.getD (4 * j + 1) 0) (l.getD (4 * j + 2) 0) (l.getD (4 * j + 3) 0) ∧ wd (l.getD (4 * j) 0) (l.getD (4 * j + 1) 0) (l.getD (4 * j + 2) 0) (l.getD (4 * j + 3) 0) < 4294967296 := by
    intro l h j
    rw [wd_eq (h _) (h _) (h _) (h _)]
    have a0 := h (4 * j); have a1 := h (4 * j + 1); have a2 := h (4 * j + 2); have a3 := h (4 * j + 3)
    unfold byteOk at a0 a1 a2 a3
    omega
  by_cases c1 : i < 4
  · match i, c1 with
    | 0, _ => rw [wds_first _ _ _ (by omega)]; exact ⟨by decide, by decide⟩
    | 1, _ => rw [wds_first _ _ _ (by omega)]; exact ⟨by decide, by decide⟩
    | 2, _ => rw [wds_first _ _ _ (by omega)]; exact ⟨by decide, by decide⟩
    | 3, _ => rw [wds_first _ _ _ (by omega)]; exact ⟨by decide, by decide⟩
  · by_cases c2 : i < 12
    · have e : i = 4 + (i - 4) := by omega
      rw [e, wds_key _ _ _ (by omega)]; exact wb hk _
    · by_cases c3 : i = 12
      · subst c3; exact hc
      · have e : i = 13 + (i - 13) := by omega
        rw [e, wds_nonce _ _ _ (by omega)]; exact wb hn _

theorem norm_bytes' {l : List Int} (h : bytesOk l) (n : Nat) : bytesOk (Dat.norm n l 0) := by
  intro i
  by_cases hi : i < n
  · rw [norm_getD l hi]; exact h i
  · have : (Dat.norm n l 0).getD i 0 = 0 := by simp [Dat.norm, List.getD, hi]
    rw [this]; exact ⟨by omega, by omega⟩

theorem chachaTold_any (k n : List Int) (c : Int) (hc : 0 ≤ c ∧ c < 4294967296) (hk : bytesOk k) (hn : bytesOk n) : law03_ChachaTold (k, c, n) = some true := by
  unfold law03_ChachaTold
  have ha : law03_alive () = some true := rfl
  simp only [ha, Dat.bind_some, if_pos (norm_EqN _ _), if_pos (rep_EqN _), if_pos (repN_EqN _), chacha_Words, chacha_Block_spec]
  have hfW : ∀ i, i < 16 → 0 ≤ (firstW k c n).getD i 0 ∧ (firstW k c n).getD i 0 < 4294967296 := by
    intro i hi
    unfold firstW
    rw [norm_getD _ hi]
    exact wds_isW _ _ _ hc (norm_bytes' hk 32) (norm_bytes' hn 12) hi
  have h12 : (firstW k c n).getD 12 0 = c := by unfold firstW; rw [norm_getD _ (by omega)]; rfl
  have e0 : Dat.norm 16 (wds (Dat.norm 32 k 0, c, Dat.norm 12 n 0)) 0 = firstW k c n := rfl
  have hnn : blockS (Dat.norm 32 k 0) c (Dat.norm 12 n 0) = blkS (lastW k c n) (firstW k c n) := by
    have : firstW (Dat.norm 32 k 0) c (Dat.norm 12 n 0) = firstW k c n := by
      unfold firstW; rw [norm_id (norm_len 32 k), norm_id (norm_len 12 n)]
    unfold blockS lastW; rw [this]
  simp only [e0, hnn]
  have hF : (firstW k c n).length = 16 := norm_len 16 _
  have hW0 : (Dat.norm 16 (firstW k c n) 0).length = 16 := norm_len 16 _
  unfold lastW
  generalize Dat.norm 16 (firstW k c n) 0 = w0 at *
  generalize firstW k c n = f at *
  have hWl := dblN_len hW0
  refine loop_inv (fun (s : Int × List Int) => ∃ i : Nat, s.1 = (i : Int) ∧ i ≤ 10 ∧ s.2 = dblN w0 i) (fun s => 10 - s.1.toNat) ?_ ⟨0, rfl, by omega, rfl⟩ (by simp)
  rintro ⟨si, sw⟩ kk ⟨i, rfl, hi, rfl⟩ hkk
  by_cases hlt : i < 10
  · have e1 : Dat.ilt (i : Int) 10 = true := ilt_t (n := 10) hlt
    have e2 : Dat.EqN (Dat.len (dblN w0 i)) 16 := hWl i
    simp only [e1, cond_true, if_pos e2, chacha_Double, Dat.bind_some, Dat.bnd_eq]
    rw [Dat.succ_i64 (by omega)]
    exact hkk (((i + 1 : Nat) : Int), dblN w0 (i + 1)) ⟨i + 1, rfl, hlt, rfl⟩ (by show 10 - ((i + 1 : Nat) : Int).toNat < 10 - (i : Int).toNat; omega)
  · have e1 : Dat.ilt (i : Int) 10 = false := ilt_f (n := 10) hlt
    have ei : i = 10 := by omega
    subst ei
    simp only [e1, cond_false]
    have hW := hWl 10
    generalize dblN w0 10 = w at *
    have hbl : (blkS w f).length = 64 := by simp [blkS]
    have hbn : Dat.norm 64 (blkS w f) 0 = blkS w f := norm_id hbl
    have hbg : ∀ i : Nat, i < 64 → (blkS w f).getD i 0 = byteB w f i := by intro i hi; simp [blkS, List.getD, hi]
    simp only [hbn]
    refine loop_inv (fun (s : Int) => ∃ i : Nat, s = (i : Int) ∧ i ≤ 16) (fun s => 16 - s.toNat) ?_ ⟨0, rfl, by omega⟩ (by simp)
    rintro si k2 ⟨i, rfl, hi⟩ hk2
    by_cases hlt : i < 16
    · have e1 : Dat.ilt (i : Int) 16 = true := ilt_t (n := 16) hlt
      have m1 : Dat.wrap .i64 (Dat.mul 4 (i : Int)) = ((4 * i : Nat) : Int) := mul_i64 (a := 4) (by omega)
      have m2 : Dat.wrap .i64 (Dat.add ((4 * i : Nat) : Int) 1) = ((4 * i + 1 : Nat) : Int) := add_i64 (b := 1) (by omega)
      have m3 : Dat.wrap .i64 (Dat.add ((4 * i : Nat) : Int) 2) = ((4 * i + 2 : Nat) : Int) := add_i64 (b := 2) (by omega)
      have m4 : Dat.wrap .i64 (Dat.add ((4 * i : Nat) : Int) 3) = ((4 * i + 3 : Nat) : Int) := add_i64 (b := 3) (by omega)
      have n8 : ¬ Dat.Neg 8 := by show ¬ ((8 : Int) < 0); omega
      have n16 : ¬ Dat.Neg 16 := by show ¬ ((16 : Int) < 0); omega
      have n24 : ¬ Dat.Neg 24 := by show ¬ ((24 : Int) < 0); omega
      have cI : ∀ j, j < 64 → Dat.In ((j : Nat) : Int) 64 := fun j hj => In_nat (n := 64) hj
      have cL : ∀ j, j < 64 → Dat.Lt (Dat.toN ((j : Nat) : Int)) (Dat.len (blkS w f)) := fun j hj => by show ((j : Nat) : Int).toNat < (blkS w f).length; omega
      have g1 : ∀ j, j < 64 → Dat.get (blkS w f) (Dat.toN ((j : Nat) : Int)) 0 = byteB w f j := fun j hj => hbg j hj
      have c1 : Dat.In (i : Int) 16 := In_nat (n := 16) hlt
      have c2 : Dat.Lt (Dat.toN (i : Int)) (Dat.len w) := by show (i : Int).toNat < w.length; omega
      have c3 : Dat.Lt (Dat.toN (i : Int)) (Dat.len f) := by show (i : Int).toNat < f.length; omega
      have g2 : ∀ l : List Int, Dat.get l (Dat.toN (i : Int)) 0 = l.getD i 0 := fun l => rfl
      simp only [e1, cond_true, m1, m2, m3, m4, if_neg n8, if_neg n16, if_neg n24, Dat.bnd_eq,
        if_pos (cI (4 * i) (by omega)), if_pos (cL (4 * i) (by omega)), g1 (4 * i) (by omega),
        if_pos (cI (4 * i + 1) (by omega)), if_pos (cL (4 * i + 1) (by omega)), g1 (4 * i + 1) (by omega),
        if_pos (cI (4 * i + 2) (by omega)), if_pos (cL (4 * i + 2) (by omega)), g1 (4 * i + 2) (by omega),
        if_pos (cI (4 * i + 3) (by omega)), if_pos (cL (4 * i + 3) (by omega)), g1 (4 * i + 3) (by omega), if_pos c1, if_pos c2, if_pos c3, g2]
      have hw := told_word w f i
      unfold wd at hw
      rw [hw, told_back w f i (hfW i hlt)]
      have e3 : Dat.ine (f.getD i 0) (f.getD i 0) = false := by simp [Dat.ine]
      rw [e3, cond_false, Dat.succ_i64 (by omega)]
      exact hk2 ((i + 1 : Nat) : Int) ⟨i + 1, rfl, hlt⟩ (by omega)
    · have e1 : Dat.ilt (i : Int) 16 = false := ilt_f (n := 16) hlt
      have c1 : Dat.In 12 16 := In_nat (i := 12) (n := 16) (by omega)
      have c3 : Dat.Lt (Dat.toN 12) (Dat.len f) := by show 12 < f.length; omega
      have g2 : Dat.get f (Dat.toN 12) 0 = f.getD 12 0 := rfl
      simp only [e1, cond_false, cond_true, if_pos c1, if_pos c3, Dat.bnd_eq, g2, h12]
      simp [Dat.ieq]

theorem law03_ChachaTold_true (d : Els p_law03_ChachaTold.args) (hf : Fits p_law03_ChachaTold.args d) : law03_ChachaTold d = some true := by
  obtain ⟨k, c, n⟩ := d
  obtain ⟨⟨_, f1⟩, f2, ⟨_, f3⟩⟩ := hf
  exact chachaTold_any k n c (fit_u32 f2) (bytesOk_of fun x hx => fit_u8 (f1 x hx)) (bytesOk_of fun x hx => fit_u8 (f3 x hx))
end Go.Proofs.Ytjfiojmfcpeaoaa
