/- ChachaBack answers true. -/
import Derived.Test.YtjfiojmfcpeaoaaChacha
namespace Go.Proofs.Ytjfiojmfcpeaoaa
open Go.Eng
set_option linter.unusedVariables false
set_option linter.unusedSimpArgs false

theorem q4_ofW (a b c d : W32) : q4 [ofW a, ofW b, ofW c, ofW d] = [ofW (qW a b c d).1, ofW (qW a b c d).2.1, ofW (qW a b c d).2.2.1, ofW (qW a b c d).2.2.2] := qr_ofW a b c d
theorem u4_ofW (a b c d : W32) : u4 [ofW a, ofW b, ofW c, ofW d] = [ofW (uW a b c d).1, ofW (uW a b c d).2.1, ofW (uW a b c d).2.2.1, ofW (uW a b c d).2.2.2] := un_ofW a b c d

theorem chachaBack_of (l : List Int) (hn : Dat.norm 4 l 0 = l) (e1 : u4 (q4 l) = l) (e2 : q4 (u4 l) = l) : law03_ChachaBack l = some true := by
  unfold law03_ChachaBack
  have ha : law03_alive () = some true := rfl
  have hE : Dat.EqN (Dat.len l) 4 := by have := norm_EqN 4 l; rwa [hn] at this
  simp only [ha, Dat.bind_some, cond_true, hn, if_pos hE, chacha_Quarter, chacha_Undo, e1, e2, lq_self, Dat.pick_tf]

theorem chachaBack_any (a b c d : W32) : law03_ChachaBack [ofW a, ofW b, ofW c, ofW d] = some true :=
  chachaBack_of _ (norm_id rfl) (by rw [q4_ofW, u4_ofW, uq]) (by rw [u4_ofW, q4_ofW, qu])

theorem four (d : List Int) (h : d.length = 4) (hw : ∀ x ∈ d, isW x) : ∃ a b c e : W32, d = [ofW a, ofW b, ofW c, ofW e] := by
  match d, h, hw with
  | [a, b, c, e], _, h3 =>
    obtain ⟨A, rfl⟩ := isW_of (h3 a (by simp))
    obtain ⟨B, rfl⟩ := isW_of (h3 b (by simp))
    obtain ⟨C, rfl⟩ := isW_of (h3 c (by simp))
    obtain ⟨D, rfl⟩ := isW_of (h3 e (by simp))
    exact ⟨A, B, C, D, rfl⟩

theorem law03_ChachaBack_true (d : Els p_law03_ChachaBack.args) (hf : Fits p_law03_ChachaBack.args d) : law03_ChachaBack d = some true := by
  have hf' : Fit (.arr 4 (.int .u32)) d := hf
  obtain ⟨h1, h2⟩ := hf'
  obtain ⟨a, b, c, e, he⟩ := four d h1 fun x hx => fit_u32 (h2 x hx)
  have : law03_ChachaBack (d : List Int) = some true := by rw [he]; exact chachaBack_any a b c e
  exact this
end Go.Proofs.Ytjfiojmfcpeaoaa
