/- Devices: the document's copy of a device, as plain data. -/
import Derived.Test.YtnbmjkbbppcbcaaDevG
namespace Go.Proofs.Ytnbmjkbbppcbcaa
open Go.Eng
set_option linter.unusedVariables false
set_option linter.unusedSimpArgs false
theorem xX7 (d : List Lev) (hb : DevB d) : yWc (d,())=some (d,()):=by
 unfold yWc
 dsimp only
 have hn:=hb.many
 refine zQb rfl ?_
 refine zQv (fun (s : Int×List Lev)=>∃ i : Nat,i≤d.length∧s=((i : Int),d.take i)) (fun s=>d.length - s.1.toNat) ?_ ⟨0,Jd _,rfl⟩ (zKn _ _ (by omega))
 rintro s k ⟨i,hi,rfl⟩ hk
 dsimp only
 by_cases h : i < d.length
 ·refine zQy (decide_eq_true (by simp only [Z.ofN, Z.len]; omega)) ?_
  refine zQb (ixND h) (zQe (zZw d h _) ?_)
  have hL:=hb.lev _ (Jb h)
  have hF:=hb.flat _ (Jb h)
  refine zQ6 (yJi d[i] (by omega) hF) ?_
  refine zQb (Qf _) ?_
  refine zZv (bigD (by simp only [Z.len,J0]; omega) (by show 1≤2000000; omega) (by omega)) ?_
  refine zQb rfl ?_
  refine zQe (y:=d.take (i+1)) (by rw [Q7 h]; rfl) ?_
  refine zQe (zXy (by omega)) ?_
  refine zQb rfl ?_
  exact hk _ ⟨i+1,h,rfl⟩ (by show d.length - ((i+1 : Nat) : Int).toNat < d.length - ((i : Int)).toNat; omega)
 ·refine zQz (decide_eq_false (by simp only [Z.ofN, Z.len]; omega)) ?_
  rw [Qi (by omega)]
end Go.Proofs.Ytnbmjkbbppcbcaa
