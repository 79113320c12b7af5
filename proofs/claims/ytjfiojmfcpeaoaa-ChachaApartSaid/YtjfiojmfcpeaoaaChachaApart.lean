/- ChachaApart answers true. -/
import Derived.Test.YtjfiojmfcpeaoaaWords
namespace Go.Proofs.Ytjfiojmfcpeaoaa
open Go.Eng
set_option linter.unusedVariables false
set_option linter.unusedSimpArgs false

theorem norm_bytes {l : List Int} (h : bytesOk l) (n : Nat) : bytesOk (Dat.norm n l 0) := by
  intro i
  by_cases hi : i < n
  · rw [norm_getD l hi]; exact h i
  · have : (Dat.norm n l 0).getD i 0 = 0 := by simp [Dat.norm, List.getD, hi]
    rw [this]; exact ⟨by omega, by omega⟩

theorem chachaApart_any (k n l m : List Int) (a b : Int) (hk : bytesOk k) (hl : bytesOk l) (hn : bytesOk n) (hm : bytesOk m) : law03_ChachaApart (k, a, n, l, b, m) = some true := by
  unfold law03_ChachaApart
  have ha : law03_alive () = some true := rfl
  simp only [ha, Dat.bind_some, cond_true, if_pos (norm_EqN _ _), chacha_Words, words_same (norm_bytes hk 32) (norm_bytes hl 32) (norm_bytes hn 12) (norm_bytes hm 12)]
  cases h1 : Dat.lq 32 (Dat.norm 32 k 0) (Dat.norm 32 l 0) with
  | false => simp [Dat.beq]
  | true =>
    cases h2 : (a == b) with
    | false => simp [Dat.ieq, h2, Dat.beq]
    | true => simp [Dat.ieq, h2, Dat.beq]

theorem law03_ChachaApart_true (d : Els p_law03_ChachaApart.args) (hf : Fits p_law03_ChachaApart.args d) : law03_ChachaApart d = some true := by
  obtain ⟨k, a, n, l, b, m⟩ := d
  obtain ⟨⟨_, f1⟩, _, ⟨_, f3⟩, ⟨_, f4⟩, _, ⟨_, f6⟩⟩ := hf
  exact chachaApart_any k n l m a b (bytesOk_of fun x hx => fit_u8 (f1 x hx)) (bytesOk_of fun x hx => fit_u8 (f4 x hx)) (bytesOk_of fun x hx => fit_u8 (f3 x hx)) (bytesOk_of fun x hx => fit_u8 (f6 x hx))
end Go.Proofs.Ytjfiojmfcpeaoaa
