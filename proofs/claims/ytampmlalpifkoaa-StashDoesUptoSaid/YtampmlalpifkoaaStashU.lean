/- Stashes: blocks added. -/
import Derived.Test.YtampmlalpifkoaaStashR
namespace Go.Proofs.Ytampmlalpifkoaa
open Go.Eng
set_option linter.unusedVariables false
set_option linter.unusedSimpArgs false
def addR(B S H W:Int):List Blk→List Blk→Option (List Blk)
 |s,[]=>some s
 |s,b::more=>if(fdS s b.1).isSome=true then none else if zZi B S H W b.1 b.2.1 b.2.2.1=0 then addR B S H W (putR s b) more else none
def aS(B S H W:Int)(s more:List Blk):List Blk×Int:=if ckS B S H W s=0 then(match addR B S H W s more with|some o=>(o,0)|none=>([],8))else([],8)
theorem vYz{B S H W:Int}{s:List Blk}{b:Blk}(h:ckS B S H W s=0)(c:zZi B S H W b.1 b.2.1 b.2.2.1=0):ckS B S H W (putR s b)=0:=by
 have hst:=zYh h;have hb:yZ2 B S H b.1 b.2.1 b.2.2.1=true:=by
  unfold zZi at c;rw[Qf hst.1]at c;split at c
  ·assumption
  ·simp at c
 unfold ckS;rw[Qf hst.1,Qf (zKy hst.2 hb)]
theorem zK6{B S H W:Int}{b:Blk}(c:zZi B S H W b.1 b.2.1 b.2.2.1=0):b.2.2.1.length≤2000000:=by
 obtain⟨hs,i0,i1,f0,f1,hd⟩:=vJ2 c;obtain⟨l1,l2,l3,l4,l5,l6⟩:=yW5.1 (zY8 hs);omega
end Go.Proofs.Ytampmlalpifkoaa
