/- FramesTurn answers true. -/
import Derived.Test.YtablhcjjfiepaaaFrpinned
namespace Go.Proofs.Ytablhcjjfiepaaa
open Go.Eng
set_option linter.unusedVariables false
set_option linter.unusedSimpArgs false
theorem xZq (c : CfgT) (l : List FrT) (h a pg cl : Int) (d : List Int) (hlen : l.length≤9223372036854775807) : zZ3 (c,((l,(h,())),(a,(pg,(cl,d)))))=some true:=by
 unfold zZ3
 dsimp only
 refine wJi (fun j=>j=true∨(zWo l∧d.length≤100)) (r:=some true) ?_ ?_
 rotate_left
 ·intro k hk
  refine zQj (xQh l h hlen) ?_
  cases hg : yY7 l with
  | true=>exact zQe rfl (hk _ (.inl rfl))
  | false =>
   refine zQf rfl ?_
   by_cases hd : d.length > 100
   ·exact hk _ (.inl (by simp only [Dat.zQd,Dat.igt,Dat.ofN,Dat.len]; simp; omega))
   ·exact hk _ (.inr ⟨wWc hg,by omega⟩)
 intro j hj
 cases j with
 | true=>exact zQe rfl rfl
 | false =>
  obtain ⟨hs,hd⟩ : zWo l∧d.length≤100:=by rcases hj with h | h; cases h; exact h
  refine zQf rfl ?_
  refine zQj (yWo l h hs) ?_
  refine zQa (Nat.le_refl _) (zXg (xZu (by simp [Dat.len,Dat.seg]) (by simp only [Dat.len]; omega) (by omega)) ?_)
  refine zQc (y:=d) rfl ?_
  refine zQj (yK8 c l h a pg cl hs) ?_
  refine zQj (xWj c l h a pg cl hs) ?_
  refine zQj (yK9 c l h a d hs (by omega)) ?_
  refine zQj (xWk c l h a d hs (by omega)) ?_
  refine zQj (yZ3 c l h a d hs (by omega)) ?_
  refine zQj (xQf c l h a d hs (by omega)) ?_
  refine zQj (yZ5 c l h a hs) ?_
  refine zQj (xQi c l h a hs) ?_
  have a1:=zJw (vX4 c l h a pg cl hs)
  have a2:=zJw (vX5 c l h a d hs hd)
  have a3:=zJw (wYw c l h a d hs hd)
  have a4:=zJw (wYy c l h a hs)
  obtain ⟨d1,s1⟩:=yXp (vKw c l h a pg cl)
  obtain ⟨d2,s2⟩:=yXp (vKx c l h a d)
  obtain ⟨d3,s3⟩:=yXp (vWk c l h a d)
  obtain ⟨d4,s4⟩:=yXp (vWm c l h a)
  generalize vJe c l h a pg cl=X1 at *
  generalize vXk c l h a pg cl=A1 at *
  generalize vJo c l h a d=X2 at *
  generalize vZa c l h a d=A2 at *
  generalize wKb c l h a d=X3 at *
  generalize xY3 c l h a d=A3 at *
  generalize wJv c l h a=X4 at *
  generalize wWr c l h a=A4 at *
  refine wJi (fun j=>j=true) (r:=some true) ?_ ?_
  rotate_left
  ·intro k hk
   refine xKa s1 a1 (fun e h1 h2=>zQa h1 (zQc rfl (zQa h2 (zQc rfl rfl)))) ?_
   refine zQe rfl (zQe (xKz s1) ?_)
   refine xKa s2 a2 (fun e h1 h2=>zQa h1 (zQc rfl (zQa h2 (zQc rfl rfl)))) ?_
   refine zQe rfl (zQe (xKz s2) ?_)
   refine xKa s3 a3 (fun e h1 h2=>zQa h1 (zQc rfl (zQa h2 (zQc rfl rfl)))) ?_
   refine zQe rfl (zQe (xKz s3) ?_)
   refine xKa s4 a4 (fun e h1 h2=>zQa h1 (zQc rfl (zQa h2 (zQc rfl rfl)))) ?_
   exact zQe rfl (hk _ (xKz s4))
  rintro j rfl
  refine zJt s1 a1 (fun _=>?_) rfl
  refine zJt s2 a2 (fun _=>?_) rfl
  refine zJt s3 a3 (fun _=>?_) rfl
  refine zJt s4 a4 (fun _=>?_) rfl
  refine wJi (fun j=>j=true) (r:=some true) (by rintro j rfl; rfl) ?_
  intro k hk
  refine zQe rfl ?_
  refine zQj (yYc c l h a cl hs) ?_
  refine zQe rfl ?_
  refine zQj (yWp l h hs) ?_
  refine zQe rfl ?_
  refine zQj (y:=true) (by rw [yWr]; simp) ?_
  exact hk _ rfl
theorem yW9 (d : Els zZj.args) (hf : Fits zZj.args d) : zZ3 d=some true:=by
 obtain ⟨c,⟨l,h,_⟩,a,pg,cl,dt⟩:=d
 have hl : l.length≤maxLen:=hf.2.1.1.1
 exact xZq c l h a pg cl dt (by rw [vXd] at hl; exact hl)
end Go.Proofs.Ytablhcjjfiepaaa
