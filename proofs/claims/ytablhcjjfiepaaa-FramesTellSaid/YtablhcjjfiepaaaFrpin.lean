/- Frames: pins, by the document. -/
import Derived.Test.YtablhcjjfiepaaaFrames
namespace Go.Proofs.Ytablhcjjfiepaaa
open Go.Eng
set_option linter.unusedVariables false
set_option linter.unusedSimpArgs false
theorem vQk (x : FrT) (hl : x.2.2.2.1.length≤1000) : zW4 x=some (pinB x.2.2.2.1):=by
 obtain ⟨k,pg,dt,p,rf,dr,_⟩:=x
 unfold zW4
 dsimp only at hl ⊢
 refine zQ2 (fun (s : Int)=>∃ i : Nat,s=i∧i≤p.length∧pinB (p.take i)=false) (fun s=>p.length - s.toNat) ?_ ⟨0,rfl,Nat.zero_le _,rfl⟩ (zK1 _ _ (by omega))
 rintro s k ⟨i,rfl,hi,hp⟩ hk
 by_cases hlt : i < p.length
 ·refine zQi (decide_eq_true (by simp only [Dat.ofN, Dat.len]; omega)) ?_
  refine zQb ⟨by omega,by simp only [Dat.len]; omega⟩ ?_
  refine zQe (iget p hlt) ?_
  by_cases h0 : 0 < p[i]
  ·refine zQi (decide_eq_true h0) ?_
   rw [wWw hlt h0]
  ·refine zQh (decide_eq_false h0) ?_
   refine zQe (zZh (x:=Dat.add (i : Int) 1) (by simp only [Dat.add]; omega)) ?_
   exact hk _ ⟨i+1,rfl,hlt,by rw [xK0 hlt,hp,decide_eq_false h0]; rfl⟩ (by simp only [Dat.add]; omega)
 ·refine zQh (decide_eq_false (by simp only [Dat.ofN, Dat.len]; omega)) ?_
  rw [List.take_of_length_le (by omega)] at hp
  rw [hp]
end Go.Proofs.Ytablhcjjfiepaaa
