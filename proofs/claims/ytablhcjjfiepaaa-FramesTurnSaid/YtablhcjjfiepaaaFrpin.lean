/- Frames: pins, by the document. -/
import Derived.Test.YtablhcjjfiepaaaFrames
namespace Go.Proofs.Ytablhcjjfiepaaa
open Go.Eng
set_option linter.unusedVariables false
set_option linter.unusedSimpArgs false
theorem wQl (x : FrT) (hl : x.2.2.2.1.length≤1000) : zZm x=some (pinB x.2.2.2.1):=by
 obtain ⟨k,pg,dt,p,rf,dr,_⟩:=x
 unfold zZm
 dsimp only at hl ⊢
 refine zWm (fun (s : Int)=>∃ i : Nat,s=i∧i≤p.length∧pinB (p.take i)=false) (fun s=>p.length - s.toNat) ?_ ⟨0,rfl,Nat.zero_le _,rfl⟩ (yWf _ _ (by omega))
 rintro s k ⟨i,rfl,hi,hp⟩ hk
 by_cases hlt : i < p.length
 ·refine zQe (decide_eq_true (by simp only [Dat.ofN, Dat.len]; omega)) ?_
  refine zQa ⟨by omega,by simp only [Dat.len]; omega⟩ ?_
  refine zQc (iget p hlt) ?_
  by_cases h0 : 0 < p[i]
  ·refine zQe (decide_eq_true h0) ?_
   rw [vWs hlt h0]
  ·refine zQf (decide_eq_false h0) ?_
   refine zQc (zYe (x:=Dat.add (i : Int) 1) (by simp only [Dat.add]; omega)) ?_
   exact hk _ ⟨i+1,rfl,hlt,by rw [wKw hlt,hp,decide_eq_false h0]; rfl⟩ (by simp only [Dat.add]; omega)
 ·refine zQf (decide_eq_false (by simp only [Dat.ofN, Dat.len]; omega)) ?_
  rw [List.take_of_length_le (by omega)] at hp
  rw [hp]
end Go.Proofs.Ytablhcjjfiepaaa
