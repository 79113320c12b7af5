/- 'TokenSeals' answers true, for every input; each argument reads afterwards as it read before; the listed variable reads as the program's text lays it (the card's tie). -/
import Derived.Test.YtfeemnbhcafofaaDoorCards
import Derived.Test.YtfeemnbhcafofaaDoorTie
import Derived.LaidMore
import Derived.Stop.Joined
import Derived.SevenTiedAt
import Derived.Test.YtfeemnbhcafofaaDoorTokenSeals
namespace Go.Proofs.YtfeemnbhcafofaaDoor.tokenSeals
open Go.ChangeShapes Go.WideShapes Go.ChangeAt Go.RowKit
set_option linter.unusedVariables false

theorem own : ownKnob Tryd.prog.godebug = none := by kernel_rfl

/-- The door's own heap meets the condition. -/
theorem uQf (os : Os) (args : Array Value) : laidMetH Tryd.prog Rows.tokenSealsRow.laid ((World.doorLaid Tryd.prog 14 os).forCall (fun _ _ => 0) ⟨#[], args, []⟩).memory :=
  laidMetH_of_parts3 (fuel := 8) (laidMet_of_run' 8 (by kernel_rfl) (by kernel_rfl)) (by kernel_rfl) (by kernel_rfl)

/-- What the condition gives. -/
theorem glob {W : World} (h : laidMetH Tryd.prog Rows.tokenSealsRow.laid W) : Eng.zYr cfg Eng.Phi0 (Eng.yKu W) W := by
  rw [MakeChecks.laidMetH_plain _ _ _ (by kernel_rfl)] at h
  exact Eng.wW9 (nm := "thimblerig/sha.k") (k := 0) (ik := .u32) (ds := gl0) rfl (by kernel_rfl) (t := 145) (by kernel_rfl) (e := 92) Tryd.underlying145 Tryd.underlying92 (by kernel_rfl) h

set_option maxRecDepth 100000 in
theorem lifted (os : Os) (started : os.Started) (H : Type) (enc : TypeId × Value → H) :
    ReturnsInHanded {} Tryd.checked os 3 .any (fun w args => (Rows.tokenSealsSpec.pre enc Tryd.prog Tryd.f3 [] false w args ∧ laidMetH Tryd.prog Rows.tokenSealsRow.laid w) ∧ sizedMet enc Tryd.prog Tryd.f3 (OpenSpec.ofChange Rows.tokenSealsSpec) false w args)
      (Rows.tokenSealsSpec.post enc Tryd.prog Tryd.f3 false true false false) := by
  refine returnsInHanded_of_change_and (C := Tryd.checked) (X := fun w _ => laidMetH Tryd.prog Rows.tokenSealsRow.laid w) (fun _ _ _ hh h => h.of_heap hh) own started (by kernel_rfl) Tryd.func3
    (ChangeSpec.witness_shaped (enc := enc) (C := Tryd.checked) (os := os) (X := fun w _ => laidMetH Tryd.prog Rows.tokenSealsRow.laid w) false (World.doorLaid Tryd.prog 14 os) #[.agg #[.int .i64 0, .int .i64 0, .int .i64 0, .int .i64 0, .int .i64 0, .int .i64 0, .int .i64 0, .int .i64 0, .int .i64 0], .agg #[.int .u8 0, .int .u8 0, .int .u8 0, .int .u8 0, .int .u8 0, .int .u8 0, .int .u8 0, .int .u8 0, .int .u8 0, .int .u8 0, .int .u8 0, .int .u8 0, .int .u8 0, .int .u8 0, .int .u8 0, .int .u8 0, .int .u8 0, .int .u8 0, .int .u8 0, .int .u8 0, .int .u8 0, .int .u8 0, .int .u8 0, .int .u8 0, .int .u8 0, .int .u8 0, .int .u8 0, .int .u8 0, .int .u8 0, .int .u8 0, .int .u8 0, .int .u8 0], .agg #[.slice none 0 0, .slice none 0 0, .int .u64 0, .int .u64 0]] 12 rfl (World.shaped_of_RefB (by kernel_rfl) (by kernel_rfl)) (by kernel_rfl) (by kernel_rfl) (by kernel_rfl) (uQf os _)) ?_
  intro W base args ds gs before hval0 hW _ _ hL _
  refine Eng.yJ0 (P := Tryd.prog) (c := cfg) (fn := Tryd.f3) (s := Rows.tokenSealsSpec) (p := zX4) zQ4.ty (by kernel_rfl) rfl Tryd.underlying4 rfl ?_ (by kernel_rfl) (by kernel_rfl) (by kernel_rfl) yKb rfl ?_ W (glob hL) base args ds gs before hval0 hW
  · intro ds hd
    match ds, hd with
    | [d1, d2, d3], _ => rfl
  · intro d hf
    exact ⟨true, yXk d hf, rfl⟩

theorem vZo : Rows.TokenSealsSaid :=
  OpenClaim.holds_of_wide 3 Tryd.f3 rfl rfl rfl rfl rfl rfl rfl ⟨rfl, rfl, rfl, rfl, rfl⟩ rfl rfl rfl rfl rfl (by kernel_rfl) Tryd.func3 (by kernel_rfl)
    (of_decide_eq_true (by kernel_rfl)) (by unfold Func.isWrapper; first | (rw [if_pos (by decide +kernel)]; kernel_rfl) | (rw [if_neg (by decide +kernel)]; exact ⟨rfl, rfl⟩))
    (fun os started H enc _ => lifted os started H enc)

theorem said : Rows.TokenSealsCardSaid :=
  Claim7.holds_tied_plain_at .later [] [.data] true (true, "6f23d3c2fa37c992fede0dd70c82005ee19e36caead4711fdd1c26096e63b357") false
    vZo (fun _ h => by cases h) (by kernel_rfl) (fun _ h => by cases h) tokenSeals_row_tie rfl ⟨rfl, rfl⟩ (by kernel_rfl) rfl
    (fun f fn hf hfn => by
      obtain rfl : f = 3 := Option.some.inj ((show Tryd.prog.funcNamed "thimblerig/thimbleriglaw28.TokenSeals" = some 3 by kernel_rfl).symm.trans hf) |>.symm
      obtain rfl : fn = Tryd.f3 := (Option.some.inj (Tryd.func3.symm.trans hfn)).symm
      exact ⟨by kernel_rfl, fun j t ht => by
        have hm := Array.mem_of_getElem? ht
        have hall : (Tryd.f3.params.toList.all fun u => !Tryd.prog.wantsStandIn u) = true := by kernel_rfl
        exact (show Tryd.prog.wantsStandIn t = false by simpa using List.all_eq_true.1 hall t (Array.mem_toList_iff.2 hm))⟩)
    (by kernel_rfl)
end Go.Proofs.YtfeemnbhcafofaaDoor.tokenSeals
