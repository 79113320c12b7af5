/- FramesClock answers true. -/
import Derived.Test.YtablhcjjfiepaaaFrvic
import Derived.Test.YtablhcjjfiepaaaFrref
namespace Go.Proofs.Ytablhcjjfiepaaa
open Go.Eng
set_option linter.unusedVariables false
set_option linter.unusedSimpArgs false
structure VicR (l L : List FrT) (p : Nat) : Prop where
 lt : p < l.length
 free : skipB (l.getD p noF)=false
 len : L.length=l.length
 ref : (L.getD p noF).2.2.2.2.1=false
 same : ∀ j,j < l.length→L.getD j noF=l.getD j noF∨(L.getD j noF=clr (l.getD j noF)∧skipB (l.getD j noF)=false)
 all : (l.getD p noF).2.2.2.2.1=true→∀ j,j < l.length→skipB (l.getD j noF)=false→(l.getD j noF).2.2.2.2.1=true
def twoC : CfgT:=(4,1,2,1,4,2,2,2,4,())
def rdy (page pins : Int) : FrT:=(2,page,[7],[pins,0],true,false,())
theorem law25_two_spec : law25_two ()=some twoC:=rfl
theorem law25_ready_spec (a b : Int) : law25_ready (a,b)=some (rdy a b):=rfl
theorem chk_two (a b : Int) (ha : 0 ≤ a) (ha8 : a ≤ 8) (hb : 0 ≤ b) (hb8 : b ≤ 8) : chkF twoC [rdy 0 a, rdy 3 b] 1 = 0 := by
 refine chkF_of (by decide) ⟨rfl,⟨by decide,by show (1 : Int) < 2; decide⟩, ?_,by show ([0,3] : List Int).Nodup; decide⟩
 have key : ∀ p x : Int, 0 ≤ p → p ≤ 8 → 0 ≤ x → x < 4 → okF twoC (rdy x p) = true := by
  intro p x h1 h2 h3 h4
  simp [okF,twoC,rdy,pinsOk,h1,h2,h3,h4]
 simp only [List.all_cons,List.all_nil,key a 0 ha ha8 (by omega) (by omega),key b 3 hb hb8 (by omega) (by omega),Bool.and_self]
theorem small_two (a b : Int) : smallF [rdy 0 a,rdy 3 b]:=⟨by simp,fun x hx=>by simp [rdy] at hx; rcases hx with rfl | rfl<;>simp⟩
theorem alive25 : law25_alive () = some true := by
 unfold law25_alive
 refine bind_to (law25_ready_spec _ _) ?_
 refine bind_to (law25_ready_spec _ _) ?_
 refine bind_to law25_two_spec ?_
 refine ite_some (Nat.le_refl _) ?_
 refine bind_to (frames_Victim_spec twoC [rdy 0 0,rdy 3 0] 1 (small_two _ _) (chk_two _ _ (by decide) (by decide) (by decide) (by decide))) ?_
 refine bind_to (law25_ready_spec _ _) ?_
 refine bind_to (law25_ready_spec _ _) ?_
 refine bind_to law25_two_spec ?_
 refine ite_some (Nat.le_refl _) ?_
 refine bind_to (frames_Victim_spec twoC [rdy 0 0,rdy 3 1] 1 (small_two _ _) (chk_two _ _ (by decide) (by decide) (by decide) (by decide))) ?_
 refine bind_to (law25_ready_spec _ _) ?_
 refine bind_to (law25_ready_spec _ _) ?_
 refine bind_to law25_two_spec ?_
 refine ite_some (Nat.le_refl _) ?_
 refine bind_to (frames_Victim_spec twoC [rdy 0 2,rdy 3 1] 1 (small_two _ _) (chk_two _ _ (by decide) (by decide) (by decide) (by decide))) ?_
 rfl
end Go.Proofs.Ytablhcjjfiepaaa
