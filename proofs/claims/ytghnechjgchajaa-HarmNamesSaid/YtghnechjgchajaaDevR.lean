/- Devices: what was seen, done again. -/
import Derived.Test.YtghnechjgchajaaDevF
import Derived.Test.YtghnechjgchajaaDevH
namespace Go.Proofs.Ytghnechjgchajaa
open Go.Eng
set_option linter.unusedVariables false
set_option linter.unusedSimpArgs false
theorem wY5(d:List Lev){l:List SeeT}{q:Nat}(h:q<l.length):reps d (l.take (q+1))=if l[q].1=2 then wrB (reps d (l.take q)) l[q].2.1 l[q].2.2.1 l[q].2.2.2.1 else reps d (l.take q):=by
 unfold reps;rw[Q6 h,List.foldl_append];rfl
theorem see_at{d:List Lev}{x:SeeT}(hm:zZj d x):∃(i:Nat) (hi:i<d.length) (k:Nat) (hk:k<d[i].length),x.2.1=(i:Int)∧x.2.2.1=((k+1:Nat):Int)∧x.2.2.2.1.length=d[i][k].length:=by
 obtain⟨i,hi,hie,hat⟩:=yW6 hm.2.1;obtain⟨k,hk,hxe⟩:=hat 0 (by simp)
 replace hxe:x.2.2.1=((k+1:Nat):Int):=hxe;have hlq:=hm.2.2;rw[hie,hxe,yWw hi hk]at hlq;exact⟨i,hi,k,hk,hie,hxe,hlq⟩
theorem xJ7{d:List Lev}{l:List SeeT}(hall:∀x∈l,zZj d x):∀q:Nat,q≤l.length→dims d=dims (reps d (l.take q))
 |0,_=>rfl
 | q+1,hq=>by
  have ih:=xJ7 hall q (by omega)
  rw[wY5 d (show q<l.length from hq)]
  split
  ·obtain⟨i,hi,k,hk,e1,e2,e3⟩:=see_at (hall _ (Qt (show q<l.length from hq)))
   rw[e1,e2];exact yZj ih hi hk _ e3
  ·exact ih
theorem vJ8{α:Type}{j:Nat}{L:List α}(h:L.length≠0):Z.xrow j L=.ref j 0 L.length L.length:=if_neg h
end Go.Proofs.Ytghnechjgchajaa
