/- Bytes' parts. -/
import Derived.Test.YtampmlalpifkoaaNum
namespace Go.Proofs.Ytampmlalpifkoaa
open Go.Eng
set_option linter.unusedVariables false
set_option linter.unusedSimpArgs false
theorem yJ0(b:List Int)(h:b.length<1099511627776):zWy b=some b:=by
  unfold zWy;have e:Z.seg ([]:List Int) 0 0=[]:=rfl;have hb:¬Z.Big (Z.len (Z.seg ([]:List Int) 0 0)) (Z.len b) 1:=by
    rw[e];show¬(2^44<(([]:List Int).length+b.length)*(1+1));simp only[Wa];omega
  have hle:Z.Le (Z.addN 0 0) (Z.len ([]:List Int)):=Qe _;have ha:Z.app ([]:List Int) b=b:=rfl;have hle2:Z.Le (Z.addN 0 (Z.len b)) (Z.len b):=by show 0+b.length≤b.length;omega
  have hsg:Z.seg b 0 (Z.len b)=b:=by show(b.drop 0).take b.length=b;rw[Jt,Jj]
  rw[Qf hle]
  first
  | (by_cases h0:Z.EqN (Z.len b) 0
     · have hn:b=[]:=Qr.1 h0
       rw[Qf h0,Qf hle,e,hn]
     ·rw[Qi h0,Qi hb,e,ha,Z.zYw,Qf hle2,hsg]
     done)
  |(rw[Qi hb,e];rfl)
def upto(sizes:List Int)(i:Nat):Nat:=(sizes.take i).sum.toNat
def part(b sizes:List Int)(i:Nat):List Int:=(b.take (upto sizes (i+1))).drop (upto sizes i)
def parts(b sizes:List Int):List (List Int):=(List.range sizes.length).map (part b sizes)
end Go.Proofs.Ytampmlalpifkoaa
