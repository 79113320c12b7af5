/-
  No cell of these rows narrows 'for every input' (looked for: loops, veiled, ifaces, maps, wideKeys, modest, calm, conditions, laid).
  DERIVED. THE GIVEN ROWS OF THIS SEAT. 5 by the template 'for every input the law returns true; each argument reads behind the call as it read before'; 0 by the template 'total and deterministic' (their statements: YtjbgbpcjgkjdcaaTotals.lean).
  GIVEN WITH THE SEED: the statements are not yours to turn. If you find one false, say at which input.
  Laid BY PROGRAM, IN A SANDBOX (cutbox-rows.mjs): the forced cells as the released guide's own fill.sh prints them over the translation bda2f0ae03e6b657… (all of the seat's roots in one cut). By AI agents, Wed Nov 11 2026. No macro, syntax, notation, axiom, sorry.
-/
import Derived.Test.YtjbgbpcjgkjdcaaChecked
import GoSem.Claim
import GoSem.ClaimJoined
import GoSem.ClaimMapViews
import Derived.JoinedTies
import Derived.KernelRfl
namespace Go.Proofs.Ytjbgbpcjgkjdcaa
/- THE CELL 'sum', in the pinned program and in every row, IS THE sha256 OF THE DUMP (.gsa) THAT YtjbgbpcjgkjdcaaProg.lean LOADS. Nothing in Lean hashes anything: it is a label: what it is worth is what the hold of that sum in a sandbox is worth. -/
noncomputable def Try.pinned : Pinned := { name := "ytjbgbpcjgkjdcaa", sum := "bda2f0ae03e6b657138431618cba02e801a9a7d1ff99b646ba7988183489dcb9", checked := Try.checked }
namespace Rows
def none {H : Type} : Left H := { results := [], args := [] }

/-- 'thimbleriglaw08.ConfNames': WHATEVER THE INPUT: true; the input reads as it did. -/
def confNamesSpec : ChangeSpec := { name := "confNames", fn := fun _ => fun
  | [] => { results := [.lit (.bool true)], args := [] }
  | _ => none }
def confNamesRow : OpenClaim := { program := "ytjbgbpcjgkjdcaa", sum := "bda2f0ae03e6b657138431618cba02e801a9a7d1ff99b646ba7988183489dcb9", func := "thimblerig/thimbleriglaw08.ConfNames", spec := "confNames", unfollowed := true, recurses := true, apart := false }
def ConfNamesSaid : Prop := confNamesRow.holds Try.pinned (OpenSpec.ofChange confNamesSpec)

/-- ITS FALSE NEIGHBOUR: 'it returns false'. Refute it at one input. -/
def confNamesWrong : ChangeSpec := { name := "confNames", fn := fun _ => fun
  | [] => { results := [.lit (.bool false)], args := [] }
  | _ => none }
def ConfNamesWrongFalsely : Prop := confNamesRow.holds Try.pinned (OpenSpec.ofChange confNamesWrong)

/-- 'thimbleriglaw08.ConfTells': WHATEVER THE INPUT: true; the input reads as it did. -/
def confTellsSpec : ChangeSpec := { name := "confTells", fn := fun _ => fun
  | [d] => { results := [.lit (.bool true)], args := [d] }
  | _ => none }
def confTellsRow : OpenClaim := { program := "ytjbgbpcjgkjdcaa", sum := "bda2f0ae03e6b657138431618cba02e801a9a7d1ff99b646ba7988183489dcb9", func := "thimblerig/thimbleriglaw08.ConfTells", spec := "confTells", unfollowed := true, recurses := true, apart := false }
def ConfTellsSaid : Prop := confTellsRow.holds Try.pinned (OpenSpec.ofChange confTellsSpec)

/-- ITS FALSE NEIGHBOUR: 'it returns false'. Refute it at one input. -/
def confTellsWrong : ChangeSpec := { name := "confTells", fn := fun _ => fun
  | [d] => { results := [.lit (.bool false)], args := [d] }
  | _ => none }
def ConfTellsWrongFalsely : Prop := confTellsRow.holds Try.pinned (OpenSpec.ofChange confTellsWrong)

/-- 'thimbleriglaw08.ConfRoads': WHATEVER THE INPUT: true; the input reads as it did. -/
def confRoadsSpec : ChangeSpec := { name := "confRoads", fn := fun _ => fun
  | [d1, d2] => { results := [.lit (.bool true)], args := [d1, d2] }
  | _ => none }
def confRoadsRow : OpenClaim := { program := "ytjbgbpcjgkjdcaa", sum := "bda2f0ae03e6b657138431618cba02e801a9a7d1ff99b646ba7988183489dcb9", func := "thimblerig/thimbleriglaw08.ConfRoads", spec := "confRoads", unfollowed := true, recurses := true, apart := false }
def ConfRoadsSaid : Prop := confRoadsRow.holds Try.pinned (OpenSpec.ofChange confRoadsSpec)

/-- ITS FALSE NEIGHBOUR: 'it returns false'. Refute it at one input. -/
def confRoadsWrong : ChangeSpec := { name := "confRoads", fn := fun _ => fun
  | [d1, d2] => { results := [.lit (.bool false)], args := [d1, d2] }
  | _ => none }
def ConfRoadsWrongFalsely : Prop := confRoadsRow.holds Try.pinned (OpenSpec.ofChange confRoadsWrong)

/-- 'thimbleriglaw08.ConfRoad': WHATEVER THE INPUT: true; the input reads as it did. -/
def confRoadSpec : ChangeSpec := { name := "confRoad", fn := fun _ => fun
  | [d1, d2, d3] => { results := [.lit (.bool true)], args := [d1, d2, d3] }
  | _ => none }
def confRoadRow : OpenClaim := { program := "ytjbgbpcjgkjdcaa", sum := "bda2f0ae03e6b657138431618cba02e801a9a7d1ff99b646ba7988183489dcb9", func := "thimblerig/thimbleriglaw08.ConfRoad", spec := "confRoad", unfollowed := true, recurses := true, apart := false }
def ConfRoadSaid : Prop := confRoadRow.holds Try.pinned (OpenSpec.ofChange confRoadSpec)

/-- ITS FALSE NEIGHBOUR: 'it returns false'. Refute it at one input. -/
def confRoadWrong : ChangeSpec := { name := "confRoad", fn := fun _ => fun
  | [d1, d2, d3] => { results := [.lit (.bool false)], args := [d1, d2, d3] }
  | _ => none }
def ConfRoadWrongFalsely : Prop := confRoadRow.holds Try.pinned (OpenSpec.ofChange confRoadWrong)

/-- 'thimbleriglaw08.ConfFits': WHATEVER THE INPUT: true; the input reads as it did. -/
def confFitsSpec : ChangeSpec := { name := "confFits", fn := fun _ => fun
  | [d] => { results := [.lit (.bool true)], args := [d] }
  | _ => none }
def confFitsRow : OpenClaim := { program := "ytjbgbpcjgkjdcaa", sum := "bda2f0ae03e6b657138431618cba02e801a9a7d1ff99b646ba7988183489dcb9", func := "thimblerig/thimbleriglaw08.ConfFits", spec := "confFits", unfollowed := true, recurses := true, apart := false }
def ConfFitsSaid : Prop := confFitsRow.holds Try.pinned (OpenSpec.ofChange confFitsSpec)

/-- ITS FALSE NEIGHBOUR: 'it returns false'. Refute it at one input. -/
def confFitsWrong : ChangeSpec := { name := "confFits", fn := fun _ => fun
  | [d] => { results := [.lit (.bool false)], args := [d] }
  | _ => none }
def ConfFitsWrongFalsely : Prop := confFitsRow.holds Try.pinned (OpenSpec.ofChange confFitsWrong)

/- THE SECOND FORM. 'bulk': how many values and letters a reading holds, each counted each time it is reached (what is shared counts as often as it is met; a slice's spare places count too). A statement '..UptoSaid' is the law's where the arguments, and the package variables that the reading takes, are together of bulk at most 1048576: NARROWER than '..Said'. Prove '..Said' where nothing that the law and all that it calls make is longer than what came in: it says more and counts as full. Else prove '..UptoSaid'. A law counts once. -/
mutual
def uptoBulk {H : Type} : DataW H → Nat
  | .lit (.string bytes) => bytes.length + 1
  | .lit _ => 1
  | .nil => 1
  | .ptr d => uptoBulk d + 1
  | .slice elems spare => uptoBulkAll elems + uptoBulkAll spare + 1
  | .agg parts => uptoBulkAll parts + 1
  | .iface _ d => uptoBulk d + 1
  | .map entries => uptoBulkEntries entries + 1
  | .held _ => 1
def uptoBulkAll {H : Type} : List (DataW H) → Nat
  | [] => 0
  | d :: r => uptoBulk d + uptoBulkAll r
def uptoBulkEntries {H : Type} : List (Lit × DataW H) → Nat
  | [] => 0
  | x :: r => uptoBulkEntry x + uptoBulkEntries r
def uptoBulkEntry {H : Type} : Lit × DataW H → Nat
  | (.string bytes, d) => bytes.length + uptoBulk d + 1
  | (_, d) => uptoBulk d + 1
 end
def uptoSmall : (H : Type) → List (DataW H) → Bool := fun _ ds => decide (uptoBulkAll ds ≤ 1048576)
def OpenSpec.upto (s : _root_.Go.ChangeSpec) : _root_.Go.OpenSpec := { _root_.Go.OpenSpec.ofChange s with cond := some uptoSmall }

/-- 'thimbleriglaw08.ConfNames', WHERE WHAT IT READS IS OF BULK AT MOST 1048576: true; the input reads as it did. -/
def confNamesUptoRow : OpenClaim := { program := "ytjbgbpcjgkjdcaa", sum := "bda2f0ae03e6b657138431618cba02e801a9a7d1ff99b646ba7988183489dcb9", func := "thimblerig/thimbleriglaw08.ConfNames", spec := "confNames", unfollowed := true, recurses := true, apart := false, narrowed := true }
def ConfNamesUptoSaid : Prop := confNamesUptoRow.holds Try.pinned (OpenSpec.upto confNamesSpec)

/-- 'thimbleriglaw08.ConfTells', WHERE WHAT IT READS IS OF BULK AT MOST 1048576: true; the input reads as it did. -/
def confTellsUptoRow : OpenClaim := { program := "ytjbgbpcjgkjdcaa", sum := "bda2f0ae03e6b657138431618cba02e801a9a7d1ff99b646ba7988183489dcb9", func := "thimblerig/thimbleriglaw08.ConfTells", spec := "confTells", unfollowed := true, recurses := true, apart := false, narrowed := true }
def ConfTellsUptoSaid : Prop := confTellsUptoRow.holds Try.pinned (OpenSpec.upto confTellsSpec)

/-- 'thimbleriglaw08.ConfRoads', WHERE WHAT IT READS IS OF BULK AT MOST 1048576: true; the input reads as it did. -/
def confRoadsUptoRow : OpenClaim := { program := "ytjbgbpcjgkjdcaa", sum := "bda2f0ae03e6b657138431618cba02e801a9a7d1ff99b646ba7988183489dcb9", func := "thimblerig/thimbleriglaw08.ConfRoads", spec := "confRoads", unfollowed := true, recurses := true, apart := false, narrowed := true }
def ConfRoadsUptoSaid : Prop := confRoadsUptoRow.holds Try.pinned (OpenSpec.upto confRoadsSpec)

/-- 'thimbleriglaw08.ConfRoad', WHERE WHAT IT READS IS OF BULK AT MOST 1048576: true; the input reads as it did. -/
def confRoadUptoRow : OpenClaim := { program := "ytjbgbpcjgkjdcaa", sum := "bda2f0ae03e6b657138431618cba02e801a9a7d1ff99b646ba7988183489dcb9", func := "thimblerig/thimbleriglaw08.ConfRoad", spec := "confRoad", unfollowed := true, recurses := true, apart := false, narrowed := true }
def ConfRoadUptoSaid : Prop := confRoadUptoRow.holds Try.pinned (OpenSpec.upto confRoadSpec)

/-- 'thimbleriglaw08.ConfFits', WHERE WHAT IT READS IS OF BULK AT MOST 1048576: true; the input reads as it did. -/
def confFitsUptoRow : OpenClaim := { program := "ytjbgbpcjgkjdcaa", sum := "bda2f0ae03e6b657138431618cba02e801a9a7d1ff99b646ba7988183489dcb9", func := "thimblerig/thimbleriglaw08.ConfFits", spec := "confFits", unfollowed := true, recurses := true, apart := false, narrowed := true }
def ConfFitsUptoSaid : Prop := confFitsUptoRow.holds Try.pinned (OpenSpec.upto confFitsSpec)

end Rows
end Go.Proofs.Ytjbgbpcjgkjdcaa
