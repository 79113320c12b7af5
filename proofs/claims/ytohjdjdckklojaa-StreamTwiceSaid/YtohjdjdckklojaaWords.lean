/- Words out of bytes. -/
import Derived.Test.YtohjdjdckklojaaChacha
namespace Go.Proofs.Ytohjdjdckklojaa
open Go.Eng
set_option linter.unusedVariables false
set_option linter.unusedSimpArgs false

def byteOk (x : Int) : Prop := 0 ≤ x ∧ x < 256
theorem wd_eq {a b c d : Int} (ha : byteOk a) (hb : byteOk b) (hc : byteOk c) (hd : byteOk d) : wd a b c d = a + 256 * b + 65536 * c + 16777216 * d := by
  unfold byteOk at ha hb hc hd
  have w : ∀ x : Int, 0 ≤ x → x < 256 → Dat.wrap .u32 x = x := fun x h1 h2 => by rw [Dat.wrap_u32]; omega
  have s8 : Dat.shl .u32 b 8 = b * 2 ^ 8 := shl_mul 8 (by omega) hb.1 (by omega)
  have s16 : Dat.shl .u32 c 16 = c * 2 ^ 16 := shl_mul 16 (by omega) hc.1 (by omega)
  have s24 : Dat.shl .u32 d 24 = d * 2 ^ 24 := shl_mul 24 (by omega) hd.1 (by omega)
  unfold wd
  rw [w a ha.1 ha.2, w b hb.1 hb.2, w c hc.1 hc.2, w d hd.1 hd.2, s8, s16, s24]
  rw [bor_add 8 ha.1 (by omega) hb.1 (by omega), bor_add 16 (by omega) (by omega) hc.1 (by omega), bor_add 24 (by omega) (by omega) hd.1 (by omega)]
  omega

theorem wds_key (k n : List Int) (c : Int) {j : Nat} (h : j < 8) : (wds (k, c, n)).getD (4 + j) 0 = wd (k.getD (4 * j) 0) (k.getD (4 * j + 1) 0) (k.getD (4 * j + 2) 0) (k.getD (4 * j + 3) 0) := by
  match j, h with
  | 0, _ => rfl
  | 1, _ => rfl
  | 2, _ => rfl
  | 3, _ => rfl
  | 4, _ => rfl
  | 5, _ => rfl
  | 6, _ => rfl
  | 7, _ => rfl
theorem wds_nonce (k n : List Int) (c : Int) {j : Nat} (h : j < 3) : (wds (k, c, n)).getD (13 + j) 0 = wd (n.getD (4 * j) 0) (n.getD (4 * j + 1) 0) (n.getD (4 * j + 2) 0) (n.getD (4 * j + 3) 0) := by
  match j, h with
  | 0, _ => rfl
  | 1, _ => rfl
  | 2, _ => rfl
theorem wds_count (k n : List Int) (c : Int) : (wds (k, c, n)).getD 12 0 = c := rfl
theorem wds_first (k n : List Int) (c : Int) {j : Nat} (h : j < 4) : (wds (k, c, n)).getD j 0 = (wds ([], 0, [])).getD j 0 := by
  match j, h with
  | 0, _ => rfl
  | 1, _ => rfl
  | 2, _ => rfl
  | 3, _ => rfl

def bytesOk (l : List Int) : Prop := ∀ i : Nat, byteOk (l.getD i 0)
theorem bytesOk_of {l : List Int} (h : ∀ x ∈ l, byteOk x) : bytesOk l := by
  intro i
  by_cases hi : i < l.length
  · have : l.getD i 0 = l[i] := by simp [List.getD, hi]
    rw [this]; exact h _ (List.getElem_mem hi)
  · have : l.getD i 0 = 0 := by simp [List.getD, hi]
    rw [this]; exact ⟨by omega, by omega⟩

theorem four_eq {k l : List Int} (hk : bytesOk k) (hl : bytesOk l) {j : Nat} (he : wd (k.getD (4 * j) 0) (k.getD (4 * j + 1) 0) (k.getD (4 * j + 2) 0) (k.getD (4 * j + 3) 0) = wd (l.getD (4 * j) 0) (l.getD (4 * j + 1) 0) (l.getD (4 * j + 2) 0) (l.getD (4 * j + 3) 0)) :
    ∀ r, r < 4 → k.getD (4 * j + r) 0 = l.getD (4 * j + r) 0 := by
  rw [wd_eq (hk _) (hk _) (hk _) (hk _), wd_eq (hl _) (hl _) (hl _) (hl _)] at he
  have a0 := hk (4 * j); have a1 := hk (4 * j + 1); have a2 := hk (4 * j + 2); have a3 := hk (4 * j + 3)
  have b0 := hl (4 * j); have b1 := hl (4 * j + 1); have b2 := hl (4 * j + 2); have b3 := hl (4 * j + 3)
  unfold byteOk at a0 a1 a2 a3 b0 b1 b2 b3
  intro r hr
  match r, hr with
  | 0, _ => show k.getD (4 * j) 0 = l.getD (4 * j) 0; omega
  | 1, _ => omega
  | 2, _ => omega
  | 3, _ => omega

theorem words_same {k l n m : List Int} {a b : Int} (hk : bytesOk k) (hl : bytesOk l) (hn : bytesOk n) (hm : bytesOk m) :
    Dat.lq 16 (wds (k, a, n)) (wds (l, b, m)) = (Dat.lq 32 k l && (a == b && Dat.lq 12 n m)) := by
  rw [Bool.eq_iff_iff, lq_iff, Bool.and_eq_true, Bool.and_eq_true, lq_iff, lq_iff, beq_iff_eq]
  constructor
  · intro h
    refine ⟨fun i hi => ?_, ?_, fun i hi => ?_⟩
    · have h1 := h (4 + i / 4) (by omega)
      rw [wds_key _ _ _ (by omega), wds_key _ _ _ (by omega)] at h1
      have := four_eq hk hl h1 (i % 4) (by omega)
      rwa [Nat.div_add_mod] at this
    · exact h 12 (by omega)
    · have h1 := h (13 + i / 4) (by omega)
      rw [wds_nonce _ _ _ (by omega), wds_nonce _ _ _ (by omega)] at h1
      have := four_eq hn hm h1 (i % 4) (by omega)
      rwa [Nat.div_add_mod] at this
  · rintro ⟨h1, h2, h3⟩ i hi
    by_cases c1 : i < 4
    · exact (wds_first k n a c1).trans (wds_first l m b c1).symm
    · by_cases c2 : i < 12
      · have e : i = 4 + (i - 4) := by omega
        rw [e, wds_key _ _ _ (by omega), wds_key _ _ _ (by omega), h1 _ (by omega), h1 _ (by omega), h1 _ (by omega), h1 _ (by omega)]
      · by_cases c3 : i = 12
        · subst c3; exact h2
        · have e : i = 13 + (i - 13) := by omega
          rw [e, wds_nonce _ _ _ (by omega), wds_nonce _ _ _ (by omega), h3 _ (by omega), h3 _ (by omega), h3 _ (by omega), h3 _ (by omega)]
end Go.Proofs.Ytohjdjdckklojaa
