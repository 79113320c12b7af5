/- EntryTells answers true. -/
import Derived.Test.YthpbheemjajegaaEntry
import Derived.Test.YthpbheemjajegaaSame
namespace Go.Proofs.Ythpbheemjajegaa
open Go.Eng
set_option linter.unusedVariables false
set_option linter.unusedSimpArgs false

theorem entryTells_any (h c n : Int) (h0 : 0 ≤ c) (h1 : c < 4294967296) (n0 : -9223372036854775808 ≤ n) (n1 : n ≤ 9223372036854775807) : law19_EntryTells (h, (c, n)) = some true := by
  unfold law19_EntryTells
  simp only
  rw [entry_Leaf_spec h c h0 h1, ref19_Leaf_spec h c h0 h1, entry_Write_spec h n n0 n1, ref19_Write_spec h n, Dat.bind_some, Dat.bind_some, Dat.bind_some, Dat.bind_some]
  rw [ref01_Same_spec, entry_Check_spec h n n0 n1, ref19_Check_spec]
  simp [Dat.ieq]

theorem law19_EntryTells_true (d : Els p_law19_EntryTells.args) (hf : Fits p_law19_EntryTells.args d) : law19_EntryTells d = some true := by
  obtain ⟨h, c, n⟩ := d
  obtain ⟨f1, f2, f3⟩ := hf
  obtain ⟨a1, a2⟩ := fit_u32 f2
  obtain ⟨b1, b2⟩ := fit_i64 f3
  exact entryTells_any h c n a1 a2 b1 b2
end Go.Proofs.Ythpbheemjajegaa
