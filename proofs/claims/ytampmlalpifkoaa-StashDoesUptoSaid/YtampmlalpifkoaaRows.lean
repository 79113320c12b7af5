/-
  No cell of these rows narrows 'for every input' (looked for: loops, veiled, ifaces, maps, wideKeys, modest, calm, conditions, laid).
  DERIVED. THE GIVEN ROWS OF THIS SEAT. 4 by the template 'for every input the law returns true; each argument reads behind the call as it read before'; 0 by the template 'total and deterministic' (their statements: YtampmlalpifkoaaTotals.lean).
  GIVEN WITH THE SEED: the statements are not yours to turn. If you find one false, say at which input.
  Laid BY PROGRAM, IN A SANDBOX (cutbox-rows.mjs): the forced cells as the released guide's own fill.sh prints them over the translation 959c13cd40884914… (all of the seat's roots in one cut). By AI agents, Wed Nov 11 2026. No macro, syntax, notation, axiom, sorry.
-/
import Derived.Test.YtampmlalpifkoaaChecked
import GoSem.Claim
import GoSem.ClaimJoined
import GoSem.ClaimMapViews
import Derived.JoinedTies
import Derived.KernelRfl
namespace Go.Proofs.Ytampmlalpifkoaa
/- THE CELL 'sum', in the pinned program and in every row, IS THE sha256 OF THE DUMP (.gsa) THAT YtampmlalpifkoaaProg.lean LOADS. Nothing in Lean hashes anything: it is a label: what it is worth is what the hold of that sum in a sandbox is worth. -/
noncomputable def Try.pinned : Pinned := { name := "ytampmlalpifkoaa", sum := "959c13cd408849148e0bfcf0530c5a908a976c79ce7e05ea45d003ef41e3ee2b", checked := Try.checked }
namespace Rows
def none {H : Type} : Left H := { results := [], args := [] }

/-- 'thimbleriglaw16.StashNames': WHATEVER THE INPUT: true; the input reads as it did. -/
def stashNamesSpec : ChangeSpec := { name := "stashNames", fn := fun _ => fun
  | [] => { results := [.lit (.bool true)], args := [] }
  | _ => none }
def stashNamesRow : OpenClaim := { program := "ytampmlalpifkoaa", sum := "959c13cd408849148e0bfcf0530c5a908a976c79ce7e05ea45d003ef41e3ee2b", func := "thimblerig/thimbleriglaw16.StashNames", spec := "stashNames", inPlace := ["slices.overlaps[thimblerig/api.Block]"], unfollowed := true, recurses := true, apart := false }
def StashNamesSaid : Prop := stashNamesRow.holds Try.pinned (OpenSpec.ofChange stashNamesSpec)

/-- ITS FALSE NEIGHBOUR: 'it returns false'. Refute it at one input. -/
def stashNamesWrong : ChangeSpec := { name := "stashNames", fn := fun _ => fun
  | [] => { results := [.lit (.bool false)], args := [] }
  | _ => none }
def StashNamesWrongFalsely : Prop := stashNamesRow.holds Try.pinned (OpenSpec.ofChange stashNamesWrong)

/-- 'thimbleriglaw16.StashDoes': WHATEVER THE INPUT: true; the input reads as it did. -/
def stashDoesSpec : ChangeSpec := { name := "stashDoes", fn := fun _ => fun
  | [d1, d2, d3, d4, d5] => { results := [.lit (.bool true)], args := [d1, d2, d3, d4, d5] }
  | _ => none }
def stashDoesRow : OpenClaim := { program := "ytampmlalpifkoaa", sum := "959c13cd408849148e0bfcf0530c5a908a976c79ce7e05ea45d003ef41e3ee2b", func := "thimblerig/thimbleriglaw16.StashDoes", spec := "stashDoes", inPlace := ["slices.overlaps[thimblerig/api.Block]"], unfollowed := true, recurses := true, apart := false }
def StashDoesSaid : Prop := stashDoesRow.holds Try.pinned (OpenSpec.ofChange stashDoesSpec)

/-- ITS FALSE NEIGHBOUR: 'it returns false'. Refute it at one input. -/
def stashDoesWrong : ChangeSpec := { name := "stashDoes", fn := fun _ => fun
  | [d1, d2, d3, d4, d5] => { results := [.lit (.bool false)], args := [d1, d2, d3, d4, d5] }
  | _ => none }
def StashDoesWrongFalsely : Prop := stashDoesRow.holds Try.pinned (OpenSpec.ofChange stashDoesWrong)

/-- 'thimbleriglaw16.StashBack': WHATEVER THE INPUT: true; the input reads as it did. -/
def stashBackSpec : ChangeSpec := { name := "stashBack", fn := fun _ => fun
  | [d1, d2, d3, d4] => { results := [.lit (.bool true)], args := [d1, d2, d3, d4] }
  | _ => none }
def stashBackRow : OpenClaim := { program := "ytampmlalpifkoaa", sum := "959c13cd408849148e0bfcf0530c5a908a976c79ce7e05ea45d003ef41e3ee2b", func := "thimblerig/thimbleriglaw16.StashBack", spec := "stashBack", inPlace := ["slices.overlaps[thimblerig/api.Block]"], unfollowed := true, recurses := true, apart := false }
def StashBackSaid : Prop := stashBackRow.holds Try.pinned (OpenSpec.ofChange stashBackSpec)

/-- ITS FALSE NEIGHBOUR: 'it returns false'. Refute it at one input. -/
def stashBackWrong : ChangeSpec := { name := "stashBack", fn := fun _ => fun
  | [d1, d2, d3, d4] => { results := [.lit (.bool false)], args := [d1, d2, d3, d4] }
  | _ => none }
def StashBackWrongFalsely : Prop := stashBackRow.holds Try.pinned (OpenSpec.ofChange stashBackWrong)

/-- 'thimbleriglaw16.StashOrder': WHATEVER THE INPUT: true; the input reads as it did. -/
def stashOrderSpec : ChangeSpec := { name := "stashOrder", fn := fun _ => fun
  | [d1, d2, d3, d4] => { results := [.lit (.bool true)], args := [d1, d2, d3, d4] }
  | _ => none }
def stashOrderRow : OpenClaim := { program := "ytampmlalpifkoaa", sum := "959c13cd408849148e0bfcf0530c5a908a976c79ce7e05ea45d003ef41e3ee2b", func := "thimblerig/thimbleriglaw16.StashOrder", spec := "stashOrder", inPlace := ["slices.overlaps[thimblerig/api.Block]"], unfollowed := true, recurses := true, apart := false }
def StashOrderSaid : Prop := stashOrderRow.holds Try.pinned (OpenSpec.ofChange stashOrderSpec)

/-- ITS FALSE NEIGHBOUR: 'it returns false'. Refute it at one input. -/
def stashOrderWrong : ChangeSpec := { name := "stashOrder", fn := fun _ => fun
  | [d1, d2, d3, d4] => { results := [.lit (.bool false)], args := [d1, d2, d3, d4] }
  | _ => none }
def StashOrderWrongFalsely : Prop := stashOrderRow.holds Try.pinned (OpenSpec.ofChange stashOrderWrong)

/- THE SECOND FORM. 'bulk': how many values and letters a reading holds, each counted each time it is reached (what is shared counts as often as it is met; a slice's spare places count too). A statement '..UptoSaid' is the law's where the arguments, and the package variables that the reading takes, are together of bulk at most 1048576: NARROWER than '..Said'. Prove '..Said' where nothing that the law and all that it calls make is longer than what came in: it says more and counts as full. Else prove '..UptoSaid'. A law counts once. -/
mutual
def uptoBulk {H : Type} : DataW H → Nat
  | .lit (.string bytes) => bytes.length + 1
  | .lit _ => 1
  | .nil => 1
  | .ptr d => uptoBulk d + 1
  | .slice elems spare => uptoBulkAll elems + uptoBulkAll spare + 1
  | .agg parts => uptoBulkAll parts + 1
  | .iface _ d => uptoBulk d + 1
  | .map entries => uptoBulkEntries entries + 1
  | .held _ => 1
def uptoBulkAll {H : Type} : List (DataW H) → Nat
  | [] => 0
  | d :: r => uptoBulk d + uptoBulkAll r
def uptoBulkEntries {H : Type} : List (Lit × DataW H) → Nat
  | [] => 0
  | x :: r => uptoBulkEntry x + uptoBulkEntries r
def uptoBulkEntry {H : Type} : Lit × DataW H → Nat
  | (.string bytes, d) => bytes.length + uptoBulk d + 1
  | (_, d) => uptoBulk d + 1
 end
def uptoSmall : (H : Type) → List (DataW H) → Bool := fun _ ds => decide (uptoBulkAll ds ≤ 1048576)
def OpenSpec.upto (s : _root_.Go.ChangeSpec) : _root_.Go.OpenSpec := { _root_.Go.OpenSpec.ofChange s with cond := some uptoSmall }

/-- 'thimbleriglaw16.StashNames', WHERE WHAT IT READS IS OF BULK AT MOST 1048576: true; the input reads as it did. -/
def stashNamesUptoRow : OpenClaim := { program := "ytampmlalpifkoaa", sum := "959c13cd408849148e0bfcf0530c5a908a976c79ce7e05ea45d003ef41e3ee2b", func := "thimblerig/thimbleriglaw16.StashNames", spec := "stashNames", inPlace := ["slices.overlaps[thimblerig/api.Block]"], unfollowed := true, recurses := true, apart := false, narrowed := true }
def StashNamesUptoSaid : Prop := stashNamesUptoRow.holds Try.pinned (OpenSpec.upto stashNamesSpec)

/-- 'thimbleriglaw16.StashDoes', WHERE WHAT IT READS IS OF BULK AT MOST 1048576: true; the input reads as it did. -/
def stashDoesUptoRow : OpenClaim := { program := "ytampmlalpifkoaa", sum := "959c13cd408849148e0bfcf0530c5a908a976c79ce7e05ea45d003ef41e3ee2b", func := "thimblerig/thimbleriglaw16.StashDoes", spec := "stashDoes", inPlace := ["slices.overlaps[thimblerig/api.Block]"], unfollowed := true, recurses := true, apart := false, narrowed := true }
def StashDoesUptoSaid : Prop := stashDoesUptoRow.holds Try.pinned (OpenSpec.upto stashDoesSpec)

/-- 'thimbleriglaw16.StashBack', WHERE WHAT IT READS IS OF BULK AT MOST 1048576: true; the input reads as it did. -/
def stashBackUptoRow : OpenClaim := { program := "ytampmlalpifkoaa", sum := "959c13cd408849148e0bfcf0530c5a908a976c79ce7e05ea45d003ef41e3ee2b", func := "thimblerig/thimbleriglaw16.StashBack", spec := "stashBack", inPlace := ["slices.overlaps[thimblerig/api.Block]"], unfollowed := true, recurses := true, apart := false, narrowed := true }
def StashBackUptoSaid : Prop := stashBackUptoRow.holds Try.pinned (OpenSpec.upto stashBackSpec)

/-- 'thimbleriglaw16.StashOrder', WHERE WHAT IT READS IS OF BULK AT MOST 1048576: true; the input reads as it did. -/
def stashOrderUptoRow : OpenClaim := { program := "ytampmlalpifkoaa", sum := "959c13cd408849148e0bfcf0530c5a908a976c79ce7e05ea45d003ef41e3ee2b", func := "thimblerig/thimbleriglaw16.StashOrder", spec := "stashOrder", inPlace := ["slices.overlaps[thimblerig/api.Block]"], unfollowed := true, recurses := true, apart := false, narrowed := true }
def StashOrderUptoSaid : Prop := stashOrderUptoRow.holds Try.pinned (OpenSpec.upto stashOrderSpec)

end Rows
end Go.Proofs.Ytampmlalpifkoaa
