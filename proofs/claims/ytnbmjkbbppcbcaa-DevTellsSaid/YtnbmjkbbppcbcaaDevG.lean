/- Devices: the document's copies. -/
import Derived.Test.YtnbmjkbbppcbcaaDevF
namespace Go.Proofs.Ytnbmjkbbppcbcaa
open Go.Eng
set_option linter.unusedVariables false
set_option linter.unusedSimpArgs false
theorem seg0 {α : Type} (l : List α) : Z.app (Z.seg ([] : List α) 0 0) l=l:=rfl
theorem yJi (L : Lev) (hl : L.length≤1000000) (hf : L.flatten.length≤1000000) : zKv L=some L:=by
 unfold zKv
 refine zQb rfl ?_
 refine zQv (fun (s : Lev×Int)=>∃ i : Nat,i≤L.length∧s=(L.take i,(i : Int))) (fun s=>L.length - s.2.toNat) ?_ ⟨0,Jd _,rfl⟩ (zKn _ _ (by omega))
 rintro s k ⟨i,hi,rfl⟩ hk
 dsimp only
 by_cases h : i < L.length
 ·refine zQy (decide_eq_true (by simp only [Z.ofN, Z.len]; omega)) ?_
  refine zQb (ixND h) (zQe (zZw L h _) ?_)
  have hx:=zJ5 L h
  refine zQb (Qf _) ?_
  refine zZv (bigD (by show 0≤2000000; omega) (by simp only [Z.len]; omega) (by omega)) ?_
  refine zQe (y:=L[i]) (seg0 _) ?_
  refine zQb (Qf _) ?_
  refine zZv (bigD (by simp only [Z.len,J0]; omega) (by show 1≤2000000; omega) (by omega)) ?_
  refine zQb rfl ?_
  refine zQe (y:=L.take (i+1)) (by rw [Q7 h]; rfl) ?_
  refine zQe (zXy (by omega)) ?_
  refine zQb rfl ?_
  exact hk _ ⟨i+1,h,rfl⟩ (by show L.length - ((i+1 : Nat) : Int).toNat < L.length - ((i : Int)).toNat; omega)
 ·refine zQz (decide_eq_false (by simp only [Z.ofN, Z.len]; omega)) ?_
  rw [Qi (by omega)]
end Go.Proofs.Ytnbmjkbbppcbcaa
