/- The statements about parts of texts answer true. -/
import Derived.Test.YtpmejooihjdapaaDoorShaL
namespace Go.Proofs.YtpmejooihjdapaaDoor
open Go.Eng
set_option linter.unusedVariables false
set_option linter.unusedSimpArgs false

/-! ### Digits -/
def hexD : List UInt8 := [48, 49, 50, 51, 52, 53, 54, 55, 56, 57, 97, 98, 99, 100, 101, 102]
def hx (l : List Int) (i : Nat) : List Int := [Dat.sget hexD (l.getD i 0 / 16).toNat, Dat.sget hexD (l.getD i 0 % 16).toNat]
def hexS (l : List Int) : List UInt8 := Dat.str ((List.range 32).flatMap (hx l))
theorem law02_hex_spec (l : List Int) (hl : l.length = 32) (hb : ∀ x ∈ l, 0 ≤ x ∧ x < 256) : law02_hex l = some (hexS l) := by
  unfold law02_hex
  rw [norm_same hl]
  refine ite_some rfl ?_
  have hm : ∀ s : List Int × Int, 32 - s.2.toNat < 18446744073709551616 := fun s => mu_lt 32 _ (by omega)
  refine loop_inv (fun s => ∃ i : Nat, i ≤ 32 ∧ s = ((List.range i).flatMap (hx l), (i : Int))) (fun s => 32 - s.2.toNat) ?_ ⟨0, by omega, rfl⟩ (hm _)
  rintro s k ⟨i, hi, rfl⟩ hk
  dsimp only
  have hlen : ∀ n, ((List.range n).flatMap (hx l)).length = 2 * n := by
    intro n
    induction n with
    | zero => rfl
    | succ n ih => rw [List.range_succ, List.flatMap_append, List.length_append, ih]; simp [hx]; omega
  by_cases h : i < 32
  · have hx0 : 0 ≤ l.getD i 0 ∧ l.getD i 0 < 256 := by
      simp only [List.getD, List.getElem?_eq_getElem (show i < l.length by omega), Option.getD_some]
      exact hb _ (List.getElem_mem _)
    refine cond_t (decide_eq_true (by omega)) ?_
    refine ite_some ⟨by omega, by omega⟩ ?_
    refine ite_some (by simp only [Dat.Lt, Dat.toN, Dat.len, Int.toNat_natCast, hl]; omega) ?_
    refine bnd_to (y := l.getD i 0) (by simp only [Dat.get, Dat.toN, Int.toNat_natCast]) ?_
    refine ite_none (by decide) ?_
    refine bnd_to (y := l.getD i 0 / 16) (by rw [Dat.wrap_u8]; simp only [Dat.tdiv]; rw [Int.tdiv_eq_ediv_of_nonneg hx0.1]; omega) ?_
    refine ite_some ⟨by omega, by simp only [Dat.len, List.length_cons, List.length_nil]; omega⟩ ?_
    refine bnd_to rfl ?_
    refine ite_some ⟨by omega, by omega⟩ ?_
    refine ite_some (by simp only [Dat.Lt, Dat.toN, Dat.len, Int.toNat_natCast, hl]; omega) ?_
    refine bnd_to (y := l.getD i 0) (by simp only [Dat.get, Dat.toN, Int.toNat_natCast]) ?_
    refine ite_none (by decide) ?_
    refine bnd_to (y := l.getD i 0 % 16) (by simp only [Dat.tmod]; rw [Int.tmod_eq_emod_of_nonneg hx0.1]) ?_
    refine ite_some ⟨by omega, by simp only [Dat.len, List.length_cons, List.length_nil]; omega⟩ ?_
    refine bnd_to rfl ?_
    refine ite_some (by simp [Dat.Le, Dat.addN, Dat.len]) ?_
    refine ite_none (by simp only [Dat.Big, Dat.len, Dat.seg, List.drop_zero, List.take_succ_cons, List.take_zero, List.length_cons, List.length_nil, hlen]; omega) ?_
    refine ite_some rfl ?_
    refine bnd_to (y := (List.range (i + 1)).flatMap (hx l)) (by
      simp only [Dat.app, Dat.seg, List.drop_zero, List.take_succ_cons, List.take_zero]
      rw [List.range_succ, List.flatMap_append, List.flatMap_cons, List.flatMap_nil, List.append_nil]; rfl) ?_
    refine bnd_to (wrapI (by simp only [Dat.add]; omega)) ?_
    refine ite_some rfl ?_
    refine hk _ ⟨i + 1, by omega, rfl⟩ ?_
    show 32 - ((i : Int) + 1).toNat < 32 - ((i : Int)).toNat; omega
  · obtain rfl : i = 32 := by omega
    refine cond_f rfl ?_
    exact bnd_to rfl rfl

theorem hex_0 : law02_hex dg0 = some (hexS dg0) := law02_hex_spec _ rfl (by decide)
theorem hex_1 : law02_hex dg1 = some (hexS dg1) := law02_hex_spec _ rfl (by decide)
theorem hex_2 : law02_hex dg2 = some (hexS dg2) := law02_hex_spec _ rfl (by decide)

theorem alive02 : law02_alive () = some true := by
  unfold law02_alive
  simp only [Dat.join_eq]
  refine bind_to (sha_Of_spec [] (by simp) (by simp)) ?_
  rw [List.flatten_nil, dig_0]
  refine bind_to hex_0 ?_
  refine cond_t (by decide) ?_
  refine ite_some (by decide) ?_
  refine ite_some (by decide) ?_
  refine bind_to (sha_Of_spec [[97], [], [98, 99]] (by decide) (by decide)) ?_
  rw [show ([[97], [], [98, 99]] : List (List Int)).flatten = [97, 98, 99] from rfl, dig_1]
  refine bind_to hex_1 ?_
  rw [show Dat.pickB true _ false = true from by rw [pk_t]; decide]

theorem law02_ShaNames_true (d : Els p_law02_ShaNames.args) (hf : Fits p_law02_ShaNames.args d) : law02_ShaNames d = some true := by
  obtain ⟨⟩ := d
  unfold law02_ShaNames
  simp only [Dat.join_eq]
  have ez : ((0 :: 0 :: 0 :: 0 :: 0 :: 0 :: 0 :: 0 :: ([] : List Int))) = zW.map ofW := by decide
  rw [ez]
  refine ite_some (by decide) ?_
  refine bind_to (sha_More_spec zW [1] [] 0 rfl (by decide) (by decide) (by decide)) ?_
  refine ite_some (by rw [Dat.MkOk_iff]; decide) ?_
  refine ite_some (by decide) ?_
  refine bind_to (sha_More_spec zW [] (List.replicate 64 0) 72057594037927872 rfl (by decide) (by decide) (by decide)) ?_
  refine bind_to (sha_End_spec zW [] 72057594037927936 rfl (by decide) (by decide)) ?_
  refine ite_some (by decide) ?_
  refine bind_to alive02 ?_
  refine cond_t rfl ?_
  refine ite_some (by decide) ?_
  refine bind_to (sha_Of_spec [tx2] (by decide) (by decide)) ?_
  rw [show ([tx2] : List (List Int)).flatten = tx2 from rfl, dig_2]
  refine bind_to hex_2 ?_
  refine cond_t (by rw [pk_t]; decide) ?_
  refine cond_t (by rw [pk_t, moreS_code]; decide) ?_
  refine cond_t (by rw [pk_t, moreS_code]; decide) ?_
  refine cond_t (by rw [pk_t]; decide) ?_
  refine bind_to sha_Begin_spec ?_
  dsimp only
  rw [eight (map_len W0_len)]
  refine bind_to (sha_Check_spec (W0.map ofW) [] 0 (by decide) (by decide)) ?_
  rfl
end Go.Proofs.YtpmejooihjdapaaDoor
