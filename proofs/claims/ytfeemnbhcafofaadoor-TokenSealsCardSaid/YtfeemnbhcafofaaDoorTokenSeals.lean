/- TokenSeals answers true. -/
import Derived.Test.YtfeemnbhcafofaaDoorTokF
namespace Go.Proofs.YtfeemnbhcafofaaDoor
open Go.Eng
set_option linter.unusedVariables false
set_option linter.unusedSimpArgs false
theorem xK4 (c : CfgT) (ky : List Int) (L : List OrmT) (M : List Int) (nx tk : Int) (hk32 : ky.length=32) (hs : StOk L M) : zZk (c,(ky,(L,(M,(nx,(tk,()))))))=some true:=by
 unfold zZk
 dsimp only
 obtain ⟨b,hb,hsm⟩:=uZ4 L M nx tk hs
 refine zQe hb ?_
 cases b with
 | true=>exact zQq rfl rfl
 | false =>
  refine zQm rfl ?_
  have hsm:=hsm rfl
  refine zQe (yZs L M nx tk hs hsm) ?_
  refine zQe (xXh c) ?_
  refine zQe (xX1 c) ?_
  rw [zQu hk32]
  refine zQa (by simp only [Z.EqN,Z.len,hk32]) ?_
  refine zQe (xXi c ky L M nx tk hk32 hs) ?_
  refine zQa (by simp only [Z.EqN,Z.len,hk32]) ?_
  refine zQe (xX2 c ky L M nx tk hk32 hs) ?_
  refine joinTo (fun j=>j=true) (r:=some true) (by rintro j rfl; rfl) ?_
  intro k hk
  refine zQq (by simp [Z.ieq]) (zQq (by simp [Z.zQr,Z.ieq]) ?_)
  refine zQe (y:=true) (by rw [yWy]; simp) ?_
  refine zQq rfl (zQq (by simp [Z.zQr,Z.ieq]) ?_)
  refine zQe (vX9 L M nx tk hs hsm) ?_
  exact hk _ rfl
theorem yXk (d : Els zX4.args) (hf : Fits zX4.args d) : zZk d=some true:=by
 obtain ⟨c,ky,L,M,nx,tk,_⟩:=d
 obtain ⟨_,hky,hL,hM,_⟩:=hf
 have hll : L.length≤maxLen:=hL.1
 have hml : M.length≤maxLen:=hM.1
 rw [wZz] at hll hml
 have min64 : IntKind.min .i64=-9223372036854775808:=by decide
 have max64 : IntKind.max .i64=9223372036854775807:=by decide
 refine xK4 c ky L M nx tk hky.1 ⟨by omega,by omega,fun o ho=>(hL.2 o ho).1.1,fun o ho=>?_,fun n hn=>?_⟩
 ·have h : o.2.1.length ≤ maxLen := (hL.2 o ho).2.1.1
  rw [wZz] at h
  omega
 ·have h := hM.2 n hn
  rw [← min64,← max64]
  exact h
end Go.Proofs.YtfeemnbhcafofaaDoor
