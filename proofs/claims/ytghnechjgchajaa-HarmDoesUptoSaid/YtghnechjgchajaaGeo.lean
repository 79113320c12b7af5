/- Package geo, and the document's answer: heights, leaves, numbers. -/
import Derived.Test.YtghnechjgchajaaM6
import Derived.Test.YtghnechjgchajaaFns
namespace Go.Proofs.Ytghnechjgchajaa
open Go.Eng
set_option linter.unusedVariables false
set_option linter.unusedSimpArgs false
def may(h:Int):Bool:=decide (1≤h)&&decide (h≤6)
theorem yYl{h:Int}:may h=true↔1≤h∧h≤6:=by simp[may]
theorem yJi{h:Int}(m:may h=true):h=1∨h=2∨h=3∨h=4∨h=5∨h=6:=by rw[yYl]at m;omega
theorem uKm{i:Nat}(h:i≤6):(2:Int)^i≤2^6:=by
 have:i=0∨i=1∨i=2∨i=3∨i=4∨i=5∨i=6:=by omega
 rcases this with rfl|rfl|rfl|rfl|rfl|rfl|rfl<;>decide
theorem yZ1(h:Int):yXq h=some (if may h then 0 else 2):=by
 unfold yXq;by_cases h1:h<1
 ·have:may h=false:=by simp[may];omega
  simp[Z.ilt,h1,this]
 ·by_cases h2:h>6
  ·have:may h=false:=by simp[may];omega
   simp[Z.ilt,Z.igt,h1,h2,this]
  ·have:may h=true:=by rw[yYl];omega
   simp[Z.ilt,Z.igt,h1,h2,this]
theorem zJz(h:Int)(h0:0≤h)(h1:h≤6):zJt h=some (2^h.toNat):=by
 unfold zJt;refine zQn (fun(s:Int×Int)=>∃i:Nat,s.2=(i:Int)∧(i:Int)≤h∧s.1=2^i) (fun s=>(h-s.2).toNat) ?_ ⟨0,rfl,by omega,by simp⟩ (by simp;omega)
 rintro⟨sa,si⟩ k ⟨i,rfl,hi,rfl⟩ hk;have hp:(2:Int)^i≤2^6:=uKm (by omega)
 have hp0:(0:Int)<2^i:=Int.pow_pos (by omega)
 have e6:(2:Int)^6=64:=by decide
 simp only[Z.ilt];by_cases hlt:(i:Int)<h
 ·simp only[hlt,decide_true,cond_true,Z.zZd,Z.mul_eq]
  rw[Z.wrap_i64 (by omega) (by omega),Z.yX5 (by omega)]
  refine hk _ ⟨i+1,rfl,by omega, ?_⟩ (by simp;omega)
  simp only[];rw[Int.pow_succ];omega
 ·have:i=h.toNat:=by omega
  rw[←this];simp only[hlt,decide_false,cond_false]
theorem xZd(h:Int):yZk h=some (if may h then(2^h.toNat,0)else(0,2)):=by
 unfold yZk;rw[yZ1,Z.bind_some];cases hm:may h with
 |false=>simp[Z.ine]
 |true=>rcases yJi hm with rfl|rfl|rfl|rfl|rfl|rfl<;>rfl
theorem xQu(h:Int):yWg h=some (if may h then(2*2^h.toNat-1,0)else(0,2)):=by
 unfold yWg;rw[yZ1,Z.bind_some];cases hm:may h with
 |false=>simp[Z.ine]
 |true=>rcases yJi hm with rfl|rfl|rfl|rfl|rfl|rfl<;>rfl
end Go.Proofs.Ytghnechjgchajaa
