/- 'SealSums' answers true, for every input; each argument reads afterwards as it read before; the listed variable reads as the program's text lays it (the card's tie). -/
import Derived.Test.YtecoonecmmbggaaDoorCards
import Derived.Test.YtecoonecmmbggaaDoorTie
import Derived.LaidMore
import Derived.Stop.Joined
import Derived.SevenTiedAt
import Derived.Test.YtecoonecmmbggaaDoorSealsum
namespace Go.Proofs.YtecoonecmmbggaaDoor.sealSums
open Go.ChangeShapes Go.WideShapes Go.ChangeAt Go.RowKit
set_option linter.unusedVariables false

theorem own : ownKnob Tryd.prog.godebug = none := by kernel_rfl

/-- The door's own heap meets the condition. -/
theorem door_met (os : Os) (args : Array Value) : laidMetH Tryd.prog Rows.sealSumsRow.laid ((World.doorLaid Tryd.prog 14 os).forCall (fun _ _ => 0) ⟨#[], args, []⟩).memory :=
  laidMetH_of_parts3 (fuel := 8) (laidMet_of_run' 8 (by kernel_rfl) (by kernel_rfl)) (by kernel_rfl) (by kernel_rfl)

/-- What the condition gives. -/
theorem glob {W : World} (h : laidMetH Tryd.prog Rows.sealSumsRow.laid W) : Eng.GlobR cfg Eng.Phi0 (Eng.AllSt W) W := by
  rw [MakeChecks.laidMetH_plain _ _ _ (by kernel_rfl)] at h
  exact Eng.globR_of_laid (nm := "thimblerig/sha.k") (k := 0) (ik := .u32) (ds := gl0) rfl (by kernel_rfl) (t := 70) (by kernel_rfl) (e := 52) Tryd.underlying70 Tryd.underlying52 (by kernel_rfl) h

set_option maxRecDepth 100000 in
theorem lifted (os : Os) (started : os.Started) (H : Type) (enc : TypeId × Value → H) :
    ReturnsInHanded {} Tryd.checked os 3 .any (fun w args => (Rows.sealSumsSpec.pre enc Tryd.prog Tryd.f3 [] false w args ∧ laidMetH Tryd.prog Rows.sealSumsRow.laid w) ∧ sizedMet enc Tryd.prog Tryd.f3 (OpenSpec.ofChange Rows.sealSumsSpec) false w args)
      (Rows.sealSumsSpec.post enc Tryd.prog Tryd.f3 false true false false) := by
  refine returnsInHanded_of_change_and (C := Tryd.checked) (X := fun w _ => laidMetH Tryd.prog Rows.sealSumsRow.laid w) (fun _ _ _ hh h => h.of_heap hh) own started (by kernel_rfl) Tryd.func3
    (ChangeSpec.witness_shaped (enc := enc) (C := Tryd.checked) (os := os) (X := fun w _ => laidMetH Tryd.prog Rows.sealSumsRow.laid w) false (World.doorLaid Tryd.prog 14 os) #[.int .i64 0, .int .i64 0, .slice none 0 0] 12 rfl (World.shaped_of_RefB (by kernel_rfl) (by kernel_rfl)) (by kernel_rfl) (by kernel_rfl) (by kernel_rfl) (door_met os _)) ?_
  intro W base args ds gs before hval0 hW _ _ hL _
  refine Eng.law_contractG (P := Tryd.prog) (c := cfg) (fn := Tryd.f3) (s := Rows.sealSumsSpec) (p := p_law11_SealSums) cfgOk.ty (by kernel_rfl) rfl Tryd.underlying4 rfl ?_ (by kernel_rfl) (by kernel_rfl) (by kernel_rfl) pd_law11_SealSums rfl ?_ W (glob hL) base args ds gs before hval0 hW
  · intro ds hd
    match ds, hd with
    | [d1, d2, d3], _ => rfl
  · intro d hf
    exact ⟨true, law11_SealSums_true d hf, rfl⟩

theorem row_holds : Rows.SealSumsSaid :=
  OpenClaim.holds_of_wide 3 Tryd.f3 rfl rfl rfl rfl rfl rfl rfl ⟨rfl, rfl, rfl, rfl, rfl⟩ rfl rfl rfl rfl rfl (by kernel_rfl) Tryd.func3 (by kernel_rfl)
    (of_decide_eq_true (by kernel_rfl)) (by unfold Func.isWrapper; first | (rw [if_pos (by decide +kernel)]; kernel_rfl) | (rw [if_neg (by decide +kernel)]; exact ⟨rfl, rfl⟩))
    (fun os started H enc _ => lifted os started H enc)

theorem said : Rows.SealSumsCardSaid :=
  Claim7.holds_tied_plain_at .later [] [.data] true (true, "a755cbe6fc442d0c52f7ac374090ba9065a880ddf78c30c00eeeb48d029343c1") false
    row_holds (fun _ h => by cases h) (by kernel_rfl) (fun _ h => by cases h) sealSums_row_tie rfl ⟨rfl, rfl⟩ (by kernel_rfl) rfl
    (fun f fn hf hfn => by
      obtain rfl : f = 3 := Option.some.inj ((show Tryd.prog.funcNamed "thimblerig/thimbleriglaw11.SealSums" = some 3 by kernel_rfl).symm.trans hf) |>.symm
      obtain rfl : fn = Tryd.f3 := (Option.some.inj (Tryd.func3.symm.trans hfn)).symm
      exact ⟨by kernel_rfl, fun j t ht => by
        have hm := Array.mem_of_getElem? ht
        have hall : (Tryd.f3.params.toList.all fun u => !Tryd.prog.wantsStandIn u) = true := by kernel_rfl
        exact (show Tryd.prog.wantsStandIn t = false by simpa using List.all_eq_true.1 hall t (Array.mem_toList_iff.2 hm))⟩)
    (by kernel_rfl)
end Go.Proofs.YtecoonecmmbggaaDoor.sealSums
