/-
  No cell of these rows narrows 'for every input' (looked for: loops, veiled, ifaces, maps, wideKeys, modest, calm, conditions, laid).
  DERIVED. THE GIVEN ROWS OF THIS SEAT. 6 by the template 'for every input the law returns true; each argument reads behind the call as it read before'; 0 by the template 'total and deterministic' (their statements: YtnbmjkbbppcbcaaTotals.lean).
  GIVEN WITH THE SEED: the statements are not yours to turn. If you find one false, say at which input.
  Laid BY PROGRAM, IN A SANDBOX (cutbox-rows.mjs): the forced cells as the released guide's own fill.sh prints them over the translation 06efb0b51a35890a… (all of the seat's roots in one cut). By AI agents, Wed Nov 11 2026. No macro, syntax, notation, axiom, sorry.
-/
import Derived.Test.YtnbmjkbbppcbcaaChecked
import GoSem.Claim
import GoSem.ClaimJoined
import GoSem.ClaimMapViews
import Derived.JoinedTies
import Derived.KernelRfl
namespace Go.Proofs.Ytnbmjkbbppcbcaa
/- THE CELL 'sum', in the pinned program and in every row, IS THE sha256 OF THE DUMP (.gsa) THAT YtnbmjkbbppcbcaaProg.lean LOADS. Nothing in Lean hashes anything: it is a label: what it is worth is what the hold of that sum in a sandbox is worth. -/
noncomputable def Try.pinned : Pinned := { name := "ytnbmjkbbppcbcaa", sum := "06efb0b51a35890a6660860ed2c8afa3ca9a295ae30bc72ab2ca978f62d3239e", checked := Try.checked }
namespace Rows
def none {H : Type} : Left H := { results := [], args := [] }

/-- 'thimbleriglaw12.DevNames': WHATEVER THE INPUT: true; the input reads as it did. -/
def devNamesSpec : ChangeSpec := { name := "devNames", fn := fun _ => fun
  | [] => { results := [.lit (.bool true)], args := [] }
  | _ => none }
def devNamesRow : OpenClaim := { program := "ytnbmjkbbppcbcaa", sum := "06efb0b51a35890a6660860ed2c8afa3ca9a295ae30bc72ab2ca978f62d3239e", func := "thimblerig/thimbleriglaw12.DevNames", spec := "devNames", unfollowed := true, recurses := true, apart := false }
def DevNamesSaid : Prop := devNamesRow.holds Try.pinned (OpenSpec.ofChange devNamesSpec)

/-- ITS FALSE NEIGHBOUR: 'it returns false'. Refute it at one input. -/
def devNamesWrong : ChangeSpec := { name := "devNames", fn := fun _ => fun
  | [] => { results := [.lit (.bool false)], args := [] }
  | _ => none }
def DevNamesWrongFalsely : Prop := devNamesRow.holds Try.pinned (OpenSpec.ofChange devNamesWrong)

/-- 'thimbleriglaw12.DevDoes': WHATEVER THE INPUT: true; the input reads as it did. -/
def devDoesSpec : ChangeSpec := { name := "devDoes", fn := fun _ => fun
  | [d1, d2, d3, d4, d5] => { results := [.lit (.bool true)], args := [d1, d2, d3, d4, d5] }
  | _ => none }
def devDoesRow : OpenClaim := { program := "ytnbmjkbbppcbcaa", sum := "06efb0b51a35890a6660860ed2c8afa3ca9a295ae30bc72ab2ca978f62d3239e", func := "thimblerig/thimbleriglaw12.DevDoes", spec := "devDoes", unfollowed := true, recurses := true, apart := false }
def DevDoesSaid : Prop := devDoesRow.holds Try.pinned (OpenSpec.ofChange devDoesSpec)

/-- ITS FALSE NEIGHBOUR: 'it returns false'. Refute it at one input. -/
def devDoesWrong : ChangeSpec := { name := "devDoes", fn := fun _ => fun
  | [d1, d2, d3, d4, d5] => { results := [.lit (.bool false)], args := [d1, d2, d3, d4, d5] }
  | _ => none }
def DevDoesWrongFalsely : Prop := devDoesRow.holds Try.pinned (OpenSpec.ofChange devDoesWrong)

/-- 'thimbleriglaw12.DevTells': WHATEVER THE INPUT: true; the input reads as it did. -/
def devTellsSpec : ChangeSpec := { name := "devTells", fn := fun _ => fun
  | [d1, d2, d3] => { results := [.lit (.bool true)], args := [d1, d2, d3] }
  | _ => none }
def devTellsRow : OpenClaim := { program := "ytnbmjkbbppcbcaa", sum := "06efb0b51a35890a6660860ed2c8afa3ca9a295ae30bc72ab2ca978f62d3239e", func := "thimblerig/thimbleriglaw12.DevTells", spec := "devTells", unfollowed := true, recurses := true, apart := false }
def DevTellsSaid : Prop := devTellsRow.holds Try.pinned (OpenSpec.ofChange devTellsSpec)

/-- ITS FALSE NEIGHBOUR: 'it returns false'. Refute it at one input. -/
def devTellsWrong : ChangeSpec := { name := "devTells", fn := fun _ => fun
  | [d1, d2, d3] => { results := [.lit (.bool false)], args := [d1, d2, d3] }
  | _ => none }
def DevTellsWrongFalsely : Prop := devTellsRow.holds Try.pinned (OpenSpec.ofChange devTellsWrong)

/-- 'thimbleriglaw12.DevReplays': WHATEVER THE INPUT: true; the input reads as it did. -/
def devReplaysSpec : ChangeSpec := { name := "devReplays", fn := fun _ => fun
  | [d1, d2, d3] => { results := [.lit (.bool true)], args := [d1, d2, d3] }
  | _ => none }
def devReplaysRow : OpenClaim := { program := "ytnbmjkbbppcbcaa", sum := "06efb0b51a35890a6660860ed2c8afa3ca9a295ae30bc72ab2ca978f62d3239e", func := "thimblerig/thimbleriglaw12.DevReplays", spec := "devReplays", unfollowed := true, recurses := true, apart := false }
def DevReplaysSaid : Prop := devReplaysRow.holds Try.pinned (OpenSpec.ofChange devReplaysSpec)

/-- ITS FALSE NEIGHBOUR: 'it returns false'. Refute it at one input. -/
def devReplaysWrong : ChangeSpec := { name := "devReplays", fn := fun _ => fun
  | [d1, d2, d3] => { results := [.lit (.bool false)], args := [d1, d2, d3] }
  | _ => none }
def DevReplaysWrongFalsely : Prop := devReplaysRow.holds Try.pinned (OpenSpec.ofChange devReplaysWrong)

/-- 'thimbleriglaw12.DevBack': WHATEVER THE INPUT: true; the input reads as it did. -/
def devBackSpec : ChangeSpec := { name := "devBack", fn := fun _ => fun
  | [d1, d2, d3, d4, d5, d6, d7] => { results := [.lit (.bool true)], args := [d1, d2, d3, d4, d5, d6, d7] }
  | _ => none }
def devBackRow : OpenClaim := { program := "ytnbmjkbbppcbcaa", sum := "06efb0b51a35890a6660860ed2c8afa3ca9a295ae30bc72ab2ca978f62d3239e", func := "thimblerig/thimbleriglaw12.DevBack", spec := "devBack", unfollowed := true, recurses := true, apart := false }
def DevBackSaid : Prop := devBackRow.holds Try.pinned (OpenSpec.ofChange devBackSpec)

/-- ITS FALSE NEIGHBOUR: 'it returns false'. Refute it at one input. -/
def devBackWrong : ChangeSpec := { name := "devBack", fn := fun _ => fun
  | [d1, d2, d3, d4, d5, d6, d7] => { results := [.lit (.bool false)], args := [d1, d2, d3, d4, d5, d6, d7] }
  | _ => none }
def DevBackWrongFalsely : Prop := devBackRow.holds Try.pinned (OpenSpec.ofChange devBackWrong)

/-- 'thimbleriglaw12.DevSeen': WHATEVER THE INPUT: true; the input reads as it did. -/
def devSeenSpec : ChangeSpec := { name := "devSeen", fn := fun _ => fun
  | [d1, d2, d3, d4, d5] => { results := [.lit (.bool true)], args := [d1, d2, d3, d4, d5] }
  | _ => none }
def devSeenRow : OpenClaim := { program := "ytnbmjkbbppcbcaa", sum := "06efb0b51a35890a6660860ed2c8afa3ca9a295ae30bc72ab2ca978f62d3239e", func := "thimblerig/thimbleriglaw12.DevSeen", spec := "devSeen", unfollowed := true, recurses := true, apart := false }
def DevSeenSaid : Prop := devSeenRow.holds Try.pinned (OpenSpec.ofChange devSeenSpec)

/-- ITS FALSE NEIGHBOUR: 'it returns false'. Refute it at one input. -/
def devSeenWrong : ChangeSpec := { name := "devSeen", fn := fun _ => fun
  | [d1, d2, d3, d4, d5] => { results := [.lit (.bool false)], args := [d1, d2, d3, d4, d5] }
  | _ => none }
def DevSeenWrongFalsely : Prop := devSeenRow.holds Try.pinned (OpenSpec.ofChange devSeenWrong)

/- THE SECOND FORM. 'bulk': how many values and letters a reading holds, each counted each time it is reached (what is shared counts as often as it is met; a slice's spare places count too). A statement '..UptoSaid' is the law's where the arguments, and the package variables that the reading takes, are together of bulk at most 1048576: NARROWER than '..Said'. Prove '..Said' where nothing that the law and all that it calls make is longer than what came in: it says more and counts as full. Else prove '..UptoSaid'. A law counts once. -/
mutual
def uptoBulk {H : Type} : DataW H → Nat
  | .lit (.string bytes) => bytes.length + 1
  | .lit _ => 1
  | .nil => 1
  | .ptr d => uptoBulk d + 1
  | .slice elems spare => uptoBulkAll elems + uptoBulkAll spare + 1
  | .agg parts => uptoBulkAll parts + 1
  | .iface _ d => uptoBulk d + 1
  | .map entries => uptoBulkEntries entries + 1
  | .held _ => 1
def uptoBulkAll {H : Type} : List (DataW H) → Nat
  | [] => 0
  | d :: r => uptoBulk d + uptoBulkAll r
def uptoBulkEntries {H : Type} : List (Lit × DataW H) → Nat
  | [] => 0
  | x :: r => uptoBulkEntry x + uptoBulkEntries r
def uptoBulkEntry {H : Type} : Lit × DataW H → Nat
  | (.string bytes, d) => bytes.length + uptoBulk d + 1
  | (_, d) => uptoBulk d + 1
 end
def uptoSmall : (H : Type) → List (DataW H) → Bool := fun _ ds => decide (uptoBulkAll ds ≤ 1048576)
def OpenSpec.upto (s : _root_.Go.ChangeSpec) : _root_.Go.OpenSpec := { _root_.Go.OpenSpec.ofChange s with cond := some uptoSmall }

/-- 'thimbleriglaw12.DevNames', WHERE WHAT IT READS IS OF BULK AT MOST 1048576: true; the input reads as it did. -/
def devNamesUptoRow : OpenClaim := { program := "ytnbmjkbbppcbcaa", sum := "06efb0b51a35890a6660860ed2c8afa3ca9a295ae30bc72ab2ca978f62d3239e", func := "thimblerig/thimbleriglaw12.DevNames", spec := "devNames", unfollowed := true, recurses := true, apart := false, narrowed := true }
def DevNamesUptoSaid : Prop := devNamesUptoRow.holds Try.pinned (OpenSpec.upto devNamesSpec)

/-- 'thimbleriglaw12.DevDoes', WHERE WHAT IT READS IS OF BULK AT MOST 1048576: true; the input reads as it did. -/
def devDoesUptoRow : OpenClaim := { program := "ytnbmjkbbppcbcaa", sum := "06efb0b51a35890a6660860ed2c8afa3ca9a295ae30bc72ab2ca978f62d3239e", func := "thimblerig/thimbleriglaw12.DevDoes", spec := "devDoes", unfollowed := true, recurses := true, apart := false, narrowed := true }
def DevDoesUptoSaid : Prop := devDoesUptoRow.holds Try.pinned (OpenSpec.upto devDoesSpec)

/-- 'thimbleriglaw12.DevTells', WHERE WHAT IT READS IS OF BULK AT MOST 1048576: true; the input reads as it did. -/
def devTellsUptoRow : OpenClaim := { program := "ytnbmjkbbppcbcaa", sum := "06efb0b51a35890a6660860ed2c8afa3ca9a295ae30bc72ab2ca978f62d3239e", func := "thimblerig/thimbleriglaw12.DevTells", spec := "devTells", unfollowed := true, recurses := true, apart := false, narrowed := true }
def DevTellsUptoSaid : Prop := devTellsUptoRow.holds Try.pinned (OpenSpec.upto devTellsSpec)

/-- 'thimbleriglaw12.DevReplays', WHERE WHAT IT READS IS OF BULK AT MOST 1048576: true; the input reads as it did. -/
def devReplaysUptoRow : OpenClaim := { program := "ytnbmjkbbppcbcaa", sum := "06efb0b51a35890a6660860ed2c8afa3ca9a295ae30bc72ab2ca978f62d3239e", func := "thimblerig/thimbleriglaw12.DevReplays", spec := "devReplays", unfollowed := true, recurses := true, apart := false, narrowed := true }
def DevReplaysUptoSaid : Prop := devReplaysUptoRow.holds Try.pinned (OpenSpec.upto devReplaysSpec)

/-- 'thimbleriglaw12.DevBack', WHERE WHAT IT READS IS OF BULK AT MOST 1048576: true; the input reads as it did. -/
def devBackUptoRow : OpenClaim := { program := "ytnbmjkbbppcbcaa", sum := "06efb0b51a35890a6660860ed2c8afa3ca9a295ae30bc72ab2ca978f62d3239e", func := "thimblerig/thimbleriglaw12.DevBack", spec := "devBack", unfollowed := true, recurses := true, apart := false, narrowed := true }
def DevBackUptoSaid : Prop := devBackUptoRow.holds Try.pinned (OpenSpec.upto devBackSpec)

/-- 'thimbleriglaw12.DevSeen', WHERE WHAT IT READS IS OF BULK AT MOST 1048576: true; the input reads as it did. -/
def devSeenUptoRow : OpenClaim := { program := "ytnbmjkbbppcbcaa", sum := "06efb0b51a35890a6660860ed2c8afa3ca9a295ae30bc72ab2ca978f62d3239e", func := "thimblerig/thimbleriglaw12.DevSeen", spec := "devSeen", unfollowed := true, recurses := true, apart := false, narrowed := true }
def DevSeenUptoSaid : Prop := devSeenUptoRow.holds Try.pinned (OpenSpec.upto devSeenSpec)

end Rows
end Go.Proofs.Ytnbmjkbbppcbcaa
