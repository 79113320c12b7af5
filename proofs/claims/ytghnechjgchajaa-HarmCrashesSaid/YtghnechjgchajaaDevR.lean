/- Devices: what was seen, done again. -/
import Derived.Test.YtghnechjgchajaaDevF
import Derived.Test.YtghnechjgchajaaDevH
namespace Go.Proofs.Ytghnechjgchajaa
open Go.Eng
set_option linter.unusedVariables false
set_option linter.unusedSimpArgs false
def sumS(l:List SeeT)(k:Nat):Nat:=((l.take k).map fun x=>min x.2.2.2.1.length 100000).sum
theorem xYs(l:List SeeT){k:Nat}(h:k<l.length):sumS l (k+1)=sumS l k+min l[k].2.2.2.1.length 100000:=by
 unfold sumS;rw[Qw h,Qv,List.sum_append];simp
theorem vQk(l:List SeeT):∀k,sumS l k≤100000*k
 |0=>by simp[sumS]
 | k+1=>by
  have ih:=vQk l k;by_cases h:k<l.length
  ·rw[xYs l h];omega
  ·have:sumS l (k+1)=sumS l k:=by unfold sumS;rw[Qg (by omega),Qg (by omega)]
   omega
theorem xY1(d:List Lev){l:List SeeT}{q:Nat}(h:q<l.length):reps d (l.take (q+1))=if l[q].1=2 then wrB (reps d (l.take q)) l[q].2.1 l[q].2.2.1 l[q].2.2.2.1 else reps d (l.take q):=by
 unfold reps;rw[Qw h,List.foldl_append];rfl
theorem wZ3{d:List Lev}{x:SeeT}(hm:zXc d x):∃(i:Nat) (hi:i<d.length) (k:Nat) (hk:k<d[i].length),x.2.1=(i:Int)∧x.2.2.1=((k+1:Nat):Int)∧x.2.2.2.1.length=d[i][k].length:=by
 obtain⟨i,hi,hie,hat⟩:=yXi hm.2.1;obtain⟨k,hk,hxe⟩:=hat 0 (by simp)
 replace hxe:x.2.2.1=((k+1:Nat):Int):=hxe;have hlq:=hm.2.2;rw[hie,hxe,zY6 hi hk]at hlq;exact⟨i,hi,k,hk,hie,hxe,hlq⟩
theorem yWb{d:List Lev}{l:List SeeT}(hall:∀x∈l,zXc d x):∀q:Nat,q≤l.length→dims d=dims (reps d (l.take q))
 |0,_=>rfl
 | q+1,hq=>by
  have ih:=yWb hall q (by omega)
  rw[xY1 d (show q<l.length from hq)]
  split
  ·obtain⟨i,hi,k,hk,e1,e2,e3⟩:=wZ3 (hall _ (Qo (show q<l.length from hq)))
   rw[e1,e2];exact yZv ih hi hk _ e3
  ·exact ih
theorem vY9{α:Type}{j:Nat}{L:List α}(h:L.length≠0):Z.xrow j L=.ref j 0 L.length L.length:=if_neg h
end Go.Proofs.Ytghnechjgchajaa
