/- All levels, and roads, as program and document count them. -/
import Derived.Test.YtghnechjgchajaaConf
import Derived.Test.YtghnechjgchajaaSameInts
namespace Go.Proofs.Ytghnechjgchajaa
open Go.Eng
set_option linter.unusedVariables false
set_option linter.unusedSimpArgs false
theorem seg1{α:Type}(x:α):Z.seg (x::([]:List α)) 0 1=[x]:=rfl
theorem le1{α:Type}(x:α):Z.Le (Z.addN 0 1) (Z.len (x::([]:List α))):=Qf _
theorem small{α:Type}{l:List α}(h:l.length≤200)(x:α){b:Nat}(hb:b≤64):¬Z.Big (Z.len l) (Z.len (Z.seg (x::([]:List α)) 0 1)) b:=by
 show¬(2^44<(l.length+1)*(b+1));have:(l.length+1)*(b+1)≤201*65:=Nat.mul_le_mul (by omega) (by omega)
 omega
noncomputable def allS(c:CfgT):List LvlT:=(LV c c.1 c.2.1).map (lvlS c)
theorem yKm(c:CfgT):(allS c).length≤64:=by
 unfold allS;rw[Qi];exact vQ1 _ _ 64 _ _
theorem yQ4{c:CfgT}(h:mayB c=true):Nums c∧(LV c c.1 c.2.1).length≤4:=by
 simp only[mayB,Qb,decide_eq_true_eq]at h;exact⟨vQu h.1,h.2⟩
end Go.Proofs.Ytghnechjgchajaa
