/- The clock, on lists. -/
import Derived.Test.YtablhcjjfiepaaaFrames
namespace Go.Proofs.Ytablhcjjfiepaaa
open Go.Eng
set_option linter.unusedVariables false
set_option linter.unusedSimpArgs false
def noF : FrT:=(0,0,[],[],false,false,())
def clr (x : FrT) : FrT:=(x.1,x.2.1,x.2.2.1,x.2.2.2.1,false,x.2.2.2.2.2.1,())
def yZn (x : FrT) : Bool:=decide (x.1=1) || pinB x.2.2.2.1
def clk (n h : Nat) : Nat → Nat → List FrT → List FrT × Option Nat
 | 0,_,L=>(L,none)
 | m + 1, i, L => if yZn (L.getD ((h + i) % n) noF) = true then clk n h m (i + 1) L
  else if (L.getD ((h+i) % n) noF).2.2.2.2.1=true then clk n h m (i+1) (L.set ((h+i) % n) (clr (L.getD ((h+i) % n) noF)))
  else (L,some ((h+i) % n))
structure ClkR (l : List FrT) (r : List FrT × Option Nat) : Prop where
 none : r.2=none→∀ j,j < l.length→yZn (l.getD j noF)=true
 some : ∀ p, r.2 = some p → p < l.length ∧ yZn (l.getD p noF) = false ∧ r.1.length = l.length ∧ (r.1.getD p noF).2.2.2.2.1 = false ∧
  (∀ j,j < l.length→r.1.getD j noF=l.getD j noF∨(r.1.getD j noF=clr (l.getD j noF)∧yZn (l.getD j noF)=false)) ∧
  ((l.getD p noF).2.2.2.2.1=true→∀ j,j < l.length→yZn (l.getD j noF)=false→(l.getD j noF).2.2.2.2.1=true)
end Go.Proofs.Ytablhcjjfiepaaa
