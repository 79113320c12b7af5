/- Package geo, and the document's answer: heights, leaves, numbers. -/
import Derived.Test.YtampmlalpifkoaaM6
import Derived.Test.YtampmlalpifkoaaFns
namespace Go.Proofs.Ytampmlalpifkoaa
open Go.Eng
set_option linter.unusedVariables false
set_option linter.unusedSimpArgs false
def may(h:Int):Bool:=decide (1≤h)&&decide (h≤6)
theorem xJb{h:Int}:may h=true↔1≤h∧h≤6:=by simp[may]
theorem vW3{h:Int}(m:may h=true):h=1∨h=2∨h=3∨h=4∨h=5∨h=6:=by rw[xJb]at m;omega
theorem uWb{i:Nat}(h:i≤6):(2:Int)^i≤2^6:=by
 have:i=0∨i=1∨i=2∨i=3∨i=4∨i=5∨i=6:=by omega
 rcases this with rfl|rfl|rfl|rfl|rfl|rfl|rfl<;>decide
theorem xXz(h:Int):yKv h=some (if may h then 0 else 2):=by
 unfold yKv;by_cases h1:h<1
 ·have:may h=false:=by simp[may];omega
  simp[Z.ilt,h1,this]
 ·by_cases h2:h>6
  ·have:may h=false:=by simp[may];omega
   simp[Z.ilt,Z.igt,h1,h2,this]
  ·have:may h=true:=by rw[xJb];omega
   simp[Z.ilt,Z.igt,h1,h2,this]
theorem xXp(h:Int):yKi h=some (may h):=by
 unfold yKi may;by_cases h1:1≤h<;>simp[Z.ige,Z.ile,h1]
theorem yWq(h:Int)(h0:0≤h)(h1:h≤6):yQf h=some (2^h.toNat):=by
 unfold yQf;refine zWx (fun(s:Int×Int)=>∃i:Nat,s.2=(i:Int)∧(i:Int)≤h∧s.1=2^i) (fun s=>(h-s.2).toNat) ?_ ⟨0,rfl,by omega,by simp⟩ (by simp;omega)
 rintro⟨sa,si⟩ k ⟨i,rfl,hi,rfl⟩ hk;have hp:(2:Int)^i≤2^6:=uWb (by omega)
 have hp0:(0:Int)<2^i:=Int.pow_pos (by omega)
 have e6:(2:Int)^6=64:=by decide
 simp only[Z.ilt];by_cases hlt:(i:Int)<h
 ·simp only[hlt,decide_true,cond_true,Z.zYw,Z.mul_eq]
  rw[Z.wrap_i64 (by omega) (by omega),Z.yZ8 (by omega)]
  refine hk _ ⟨i+1,rfl,by omega, ?_⟩ (by simp;omega)
  simp only[];rw[Int.pow_succ];omega
 ·have:i=h.toNat:=by omega
  rw[←this];simp only[hlt,decide_false,cond_false]
theorem yXc(h:Int):yQj h=some (if may h then(2^h.toNat,0)else(0,2)):=by
 unfold yQj;rw[xXz,Z.bind_some];cases hm:may h with
 |false=>simp[Z.ine]
 |true=>rcases vW3 hm with rfl|rfl|rfl|rfl|rfl|rfl<;>rfl
end Go.Proofs.Ytampmlalpifkoaa
