/-
  No cell of these rows narrows 'for every input' (looked for: loops, veiled, ifaces, maps, wideKeys, modest, calm, conditions, laid).
  DERIVED. THE GIVEN ROWS OF THIS SEAT. 5 by the template 'for every input the law returns true; each argument reads behind the call as it read before'; 0 by the template 'total and deterministic' (their statements: YtaphpgkaammeiaaTotals.lean).
  GIVEN WITH THE SEED: the statements are not yours to turn. If you find one false, say at which input.
  Laid BY PROGRAM, IN A SANDBOX (cutbox-rows.mjs): the forced cells as the released guide's own fill.sh prints them over the translation 1386af8f18f12ff2… (all of the seat's roots in one cut). By AI agents, Wed Nov 11 2026. No macro, syntax, notation, axiom, sorry.
-/
import Derived.Test.YtaphpgkaammeiaaChecked
import GoSem.Claim
import GoSem.ClaimJoined
import GoSem.ClaimMapViews
import Derived.JoinedTies
import Derived.KernelRfl
namespace Go.Proofs.Ytaphpgkaammeiaa
/- THE CELL 'sum', in the pinned program and in every row, IS THE sha256 OF THE DUMP (.gsa) THAT YtaphpgkaammeiaaProg.lean LOADS. Nothing in Lean hashes anything: it is a label: what it is worth is what the hold of that sum in a sandbox is worth. -/
noncomputable def Try.pinned : Pinned := { name := "ytaphpgkaammeiaa", sum := "1386af8f18f12ff234e3fa74a1f4a992c4cde90bd564f07f5b20a37bc376b658", checked := Try.checked }
namespace Rows
def none {H : Type} : Left H := { results := [], args := [] }

/-- 'thimbleriglaw07.GeoNames': WHATEVER THE INPUT: true; the input reads as it did. -/
def geoNamesSpec : ChangeSpec := { name := "geoNames", fn := fun _ => fun
  | [] => { results := [.lit (.bool true)], args := [] }
  | _ => none }
def geoNamesRow : OpenClaim := { program := "ytaphpgkaammeiaa", sum := "1386af8f18f12ff234e3fa74a1f4a992c4cde90bd564f07f5b20a37bc376b658", func := "thimblerig/thimbleriglaw07.GeoNames", spec := "geoNames", unfollowed := true, recurses := true, apart := false }
def GeoNamesSaid : Prop := geoNamesRow.holds Try.pinned (OpenSpec.ofChange geoNamesSpec)

/-- ITS FALSE NEIGHBOUR: 'it returns false'. Refute it at one input. -/
def geoNamesWrong : ChangeSpec := { name := "geoNames", fn := fun _ => fun
  | [] => { results := [.lit (.bool false)], args := [] }
  | _ => none }
def GeoNamesWrongFalsely : Prop := geoNamesRow.holds Try.pinned (OpenSpec.ofChange geoNamesWrong)

/-- 'thimbleriglaw07.GeoCounts': WHATEVER THE INPUT: true; the input reads as it did. -/
def geoCountsSpec : ChangeSpec := { name := "geoCounts", fn := fun _ => fun
  | [d1, d2] => { results := [.lit (.bool true)], args := [d1, d2] }
  | _ => none }
def geoCountsRow : OpenClaim := { program := "ytaphpgkaammeiaa", sum := "1386af8f18f12ff234e3fa74a1f4a992c4cde90bd564f07f5b20a37bc376b658", func := "thimblerig/thimbleriglaw07.GeoCounts", spec := "geoCounts", unfollowed := true, recurses := true, apart := false }
def GeoCountsSaid : Prop := geoCountsRow.holds Try.pinned (OpenSpec.ofChange geoCountsSpec)

/-- ITS FALSE NEIGHBOUR: 'it returns false'. Refute it at one input. -/
def geoCountsWrong : ChangeSpec := { name := "geoCounts", fn := fun _ => fun
  | [d1, d2] => { results := [.lit (.bool false)], args := [d1, d2] }
  | _ => none }
def GeoCountsWrongFalsely : Prop := geoCountsRow.holds Try.pinned (OpenSpec.ofChange geoCountsWrong)

/-- 'thimbleriglaw07.GeoPaths': WHATEVER THE INPUT: true; the input reads as it did. -/
def geoPathsSpec : ChangeSpec := { name := "geoPaths", fn := fun _ => fun
  | [d1, d2, d3] => { results := [.lit (.bool true)], args := [d1, d2, d3] }
  | _ => none }
def geoPathsRow : OpenClaim := { program := "ytaphpgkaammeiaa", sum := "1386af8f18f12ff234e3fa74a1f4a992c4cde90bd564f07f5b20a37bc376b658", func := "thimblerig/thimbleriglaw07.GeoPaths", spec := "geoPaths", unfollowed := true, recurses := true, apart := false }
def GeoPathsSaid : Prop := geoPathsRow.holds Try.pinned (OpenSpec.ofChange geoPathsSpec)

/-- ITS FALSE NEIGHBOUR: 'it returns false'. Refute it at one input. -/
def geoPathsWrong : ChangeSpec := { name := "geoPaths", fn := fun _ => fun
  | [d1, d2, d3] => { results := [.lit (.bool false)], args := [d1, d2, d3] }
  | _ => none }
def GeoPathsWrongFalsely : Prop := geoPathsRow.holds Try.pinned (OpenSpec.ofChange geoPathsWrong)

/-- 'thimbleriglaw07.GeoRound': WHATEVER THE INPUT: true; the input reads as it did. -/
def geoRoundSpec : ChangeSpec := { name := "geoRound", fn := fun _ => fun
  | [d1, d2] => { results := [.lit (.bool true)], args := [d1, d2] }
  | _ => none }
def geoRoundRow : OpenClaim := { program := "ytaphpgkaammeiaa", sum := "1386af8f18f12ff234e3fa74a1f4a992c4cde90bd564f07f5b20a37bc376b658", func := "thimblerig/thimbleriglaw07.GeoRound", spec := "geoRound", unfollowed := true, recurses := true, apart := false }
def GeoRoundSaid : Prop := geoRoundRow.holds Try.pinned (OpenSpec.ofChange geoRoundSpec)

/-- ITS FALSE NEIGHBOUR: 'it returns false'. Refute it at one input. -/
def geoRoundWrong : ChangeSpec := { name := "geoRound", fn := fun _ => fun
  | [d1, d2] => { results := [.lit (.bool false)], args := [d1, d2] }
  | _ => none }
def GeoRoundWrongFalsely : Prop := geoRoundRow.holds Try.pinned (OpenSpec.ofChange geoRoundWrong)

/-- 'thimbleriglaw07.GeoHalves': WHATEVER THE INPUT: true; the input reads as it did. -/
def geoHalvesSpec : ChangeSpec := { name := "geoHalves", fn := fun _ => fun
  | [d1, d2, d3] => { results := [.lit (.bool true)], args := [d1, d2, d3] }
  | _ => none }
def geoHalvesRow : OpenClaim := { program := "ytaphpgkaammeiaa", sum := "1386af8f18f12ff234e3fa74a1f4a992c4cde90bd564f07f5b20a37bc376b658", func := "thimblerig/thimbleriglaw07.GeoHalves", spec := "geoHalves", unfollowed := true, recurses := true, apart := false }
def GeoHalvesSaid : Prop := geoHalvesRow.holds Try.pinned (OpenSpec.ofChange geoHalvesSpec)

/-- ITS FALSE NEIGHBOUR: 'it returns false'. Refute it at one input. -/
def geoHalvesWrong : ChangeSpec := { name := "geoHalves", fn := fun _ => fun
  | [d1, d2, d3] => { results := [.lit (.bool false)], args := [d1, d2, d3] }
  | _ => none }
def GeoHalvesWrongFalsely : Prop := geoHalvesRow.holds Try.pinned (OpenSpec.ofChange geoHalvesWrong)

/- THE SECOND FORM. 'bulk': how many values and letters a reading holds, each counted each time it is reached (what is shared counts as often as it is met; a slice's spare places count too). A statement '..UptoSaid' is the law's where the arguments, and the package variables that the reading takes, are together of bulk at most 1048576: NARROWER than '..Said'. Prove '..Said' where nothing that the law and all that it calls make is longer than what came in: it says more and counts as full. Else prove '..UptoSaid'. A law counts once. -/
mutual
def uptoBulk {H : Type} : DataW H → Nat
  | .lit (.string bytes) => bytes.length + 1
  | .lit _ => 1
  | .nil => 1
  | .ptr d => uptoBulk d + 1
  | .slice elems spare => uptoBulkAll elems + uptoBulkAll spare + 1
  | .agg parts => uptoBulkAll parts + 1
  | .iface _ d => uptoBulk d + 1
  | .map entries => uptoBulkEntries entries + 1
  | .held _ => 1
def uptoBulkAll {H : Type} : List (DataW H) → Nat
  | [] => 0
  | d :: r => uptoBulk d + uptoBulkAll r
def uptoBulkEntries {H : Type} : List (Lit × DataW H) → Nat
  | [] => 0
  | x :: r => uptoBulkEntry x + uptoBulkEntries r
def uptoBulkEntry {H : Type} : Lit × DataW H → Nat
  | (.string bytes, d) => bytes.length + uptoBulk d + 1
  | (_, d) => uptoBulk d + 1
 end
def uptoSmall : (H : Type) → List (DataW H) → Bool := fun _ ds => decide (uptoBulkAll ds ≤ 1048576)
def OpenSpec.upto (s : _root_.Go.ChangeSpec) : _root_.Go.OpenSpec := { _root_.Go.OpenSpec.ofChange s with cond := some uptoSmall }

/-- 'thimbleriglaw07.GeoNames', WHERE WHAT IT READS IS OF BULK AT MOST 1048576: true; the input reads as it did. -/
def geoNamesUptoRow : OpenClaim := { program := "ytaphpgkaammeiaa", sum := "1386af8f18f12ff234e3fa74a1f4a992c4cde90bd564f07f5b20a37bc376b658", func := "thimblerig/thimbleriglaw07.GeoNames", spec := "geoNames", unfollowed := true, recurses := true, apart := false, narrowed := true }
def GeoNamesUptoSaid : Prop := geoNamesUptoRow.holds Try.pinned (OpenSpec.upto geoNamesSpec)

/-- 'thimbleriglaw07.GeoCounts', WHERE WHAT IT READS IS OF BULK AT MOST 1048576: true; the input reads as it did. -/
def geoCountsUptoRow : OpenClaim := { program := "ytaphpgkaammeiaa", sum := "1386af8f18f12ff234e3fa74a1f4a992c4cde90bd564f07f5b20a37bc376b658", func := "thimblerig/thimbleriglaw07.GeoCounts", spec := "geoCounts", unfollowed := true, recurses := true, apart := false, narrowed := true }
def GeoCountsUptoSaid : Prop := geoCountsUptoRow.holds Try.pinned (OpenSpec.upto geoCountsSpec)

/-- 'thimbleriglaw07.GeoPaths', WHERE WHAT IT READS IS OF BULK AT MOST 1048576: true; the input reads as it did. -/
def geoPathsUptoRow : OpenClaim := { program := "ytaphpgkaammeiaa", sum := "1386af8f18f12ff234e3fa74a1f4a992c4cde90bd564f07f5b20a37bc376b658", func := "thimblerig/thimbleriglaw07.GeoPaths", spec := "geoPaths", unfollowed := true, recurses := true, apart := false, narrowed := true }
def GeoPathsUptoSaid : Prop := geoPathsUptoRow.holds Try.pinned (OpenSpec.upto geoPathsSpec)

/-- 'thimbleriglaw07.GeoRound', WHERE WHAT IT READS IS OF BULK AT MOST 1048576: true; the input reads as it did. -/
def geoRoundUptoRow : OpenClaim := { program := "ytaphpgkaammeiaa", sum := "1386af8f18f12ff234e3fa74a1f4a992c4cde90bd564f07f5b20a37bc376b658", func := "thimblerig/thimbleriglaw07.GeoRound", spec := "geoRound", unfollowed := true, recurses := true, apart := false, narrowed := true }
def GeoRoundUptoSaid : Prop := geoRoundUptoRow.holds Try.pinned (OpenSpec.upto geoRoundSpec)

/-- 'thimbleriglaw07.GeoHalves', WHERE WHAT IT READS IS OF BULK AT MOST 1048576: true; the input reads as it did. -/
def geoHalvesUptoRow : OpenClaim := { program := "ytaphpgkaammeiaa", sum := "1386af8f18f12ff234e3fa74a1f4a992c4cde90bd564f07f5b20a37bc376b658", func := "thimblerig/thimbleriglaw07.GeoHalves", spec := "geoHalves", unfollowed := true, recurses := true, apart := false, narrowed := true }
def GeoHalvesUptoSaid : Prop := geoHalvesUptoRow.holds Try.pinned (OpenSpec.upto geoHalvesSpec)

end Rows
end Go.Proofs.Ytaphpgkaammeiaa
