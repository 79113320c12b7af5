/- Clean operators answer as the model's. -/
import Derived.Test.YtjfiojmfcpeaoaaED
import GoSem.Op.Equal
import Derived.Laws.StructEq
namespace Go.Eng
set_option linter.unusedVariables false

section
variable {P : Program} {ty : Ty} (hty : ty.Ok P) {φ : Phi} {St : Stab} {w : World}
include hty

/-- Elements from i on are the same. -/
def eqElemsM (d : Nat) (e : TypeId) (n : Nat) (xs ys : Array Value) : List Nat → Sem Bool
  | [] => pure true
  | i :: is => do
    let a ← part e xs (i * n)
    let b ← part e ys (i * n)
    let r ← Op.equalIn d e a b
    if (!r) = true then pure false else eqElemsM d e n xs ys is

omit hty in
theorem run_equalIn_array (d : Nat) (t e : TypeId) (len : Nat) (xs ys : Array Value) (ht : P.underlying t = some (.array len e)) (n : Nat) (hn : (sizeOf e).run P w = .ok n w) :
    (Op.equalIn (d + 1) t (.agg xs) (.agg ys)).run P w = (eqElemsM d e n xs ys (List.range' 0 len)).run P w := by
  simp only [Op.equalIn, Sem.run_bind, run_underlying ht, Result.andThen_ok, hn]
  rw [Std.Legacy.Range.forIn_eq_forIn_range']
  have hsz : List.range' 0 ([:len] : Std.Legacy.Range).size 1 = List.range' 0 len := by simp [Std.Legacy.Range.size]
  have : List.range' ([:len] : Std.Legacy.Range).start ([:len] : Std.Legacy.Range).size ([:len] : Std.Legacy.Range).step = List.range' 0 len := hsz
  rw [this]
  generalize List.range' 0 len = l
  clear hn
  induction l generalizing w with
  | nil => simp [eqElemsM]
  | cons i is ih =>
    simp only [List.forIn_cons, eqElemsM, Sem.run_bind, Sem.run_ite]
    generalize (part e xs (i * n)).run P w = r1
    cases r1 with
    | halt h w1 => simp
    | ok a w1 =>
      simp only [Result.andThen_ok]
      generalize (part e ys (i * n)).run P w1 = r2
      cases r2 with
      | halt h w2 => simp
      | ok b w2 =>
        simp only [Result.andThen_ok]
        generalize (Op.equalIn d e a b).run P w2 = r3
        cases r3 with
        | halt h w3 => simp
        | ok r w3 =>
          cases r with
          | true => simpa using ih (w := w3)
          | false => simp

theorem eqV_ok : ∀ (d : Nat),
    (∀ t x y b vx vy, eqV ty d t x y = some b → VR φ St w x vx → VR φ St w y vy → ∀ D, d ≤ D → (Op.equalIn D t vx vy).run P w = .ok b w) := by
  intro d
  induction d with
  | zero => intro t x y b vx vy h; simp [eqV] at h
  | succ d ih =>
    intro t x y b vx vy h hx hy D hD
    obtain ⟨D, rfl⟩ : ∃ D', D = D' + 1 := ⟨D - 1, by omega⟩
    have hD' : d ≤ D := by omega
    have fieldsOk : ∀ (fs : List Field) (xs ys : List CV) (us vs : List Value) (b : Bool), eqFields ty (eqV ty d) fs xs ys = some b → VRL φ St w xs us → VRL φ St w ys vs →
        (Op.eqFields D us.toArray vs.toArray fs).run P w = .ok b w := by
      intro fs
      induction fs with
      | nil => intro xs ys us vs b h _ _; simp [eqFields] at h; subst h; rfl
      | cons f fs ihf =>
        intro xs ys us vs b h hu hv
        simp only [eqFields] at h
        simp only [Op.eqFields]
        split at h
        · rename_i hne
          rw [if_pos hne]
          split at h
          · simp at h
          · rename_i j hj
            split at h
            · rename_i a c ha hc
              obtain ⟨va, hra, hva⟩ := run_partC hty hj hu ha
              obtain ⟨vc, hrc, hvc⟩ := run_partC hty hj hv hc
              split at h
              · rename_i he
                simp [hra, hrc, ih _ _ _ _ _ _ he hva hvc D hD', ihf _ _ _ _ _ h hu hv]
              · rename_i r hr1
                cases b with
                | true => exact absurd h hr1
                | false => simp [hra, hrc, ih _ _ _ _ _ _ h hva hvc D hD']
            · simp at h
        · rename_i hne
          rw [if_neg hne]
          exact ihf _ _ _ _ _ h hu hv
    have elemsOk : ∀ (n i : Nat) (e : TypeId) (j : TI) (xs ys : List CV) (us vs : List Value) (b : Bool), ty e = some j → eqElems ty (eqV ty d) e n i xs ys = some b → VRL φ St w xs us → VRL φ St w ys vs →
        (eqElemsM D e j.size us.toArray vs.toArray (List.range' i n)).run P w = .ok b w := by
      intro n
      induction n with
      | zero => intro i e j xs ys us vs b _ h _ _; simp [eqElems] at h; subst h; rfl
      | succ n ihn =>
        intro i e j xs ys us vs b hj h hu hv
        simp only [eqElems, hj] at h
        simp only [List.range'_succ, eqElemsM]
        split at h
        · rename_i a c ha hc
          obtain ⟨va, hra, hva⟩ := run_partC hty hj hu ha
          obtain ⟨vc, hrc, hvc⟩ := run_partC hty hj hv hc
          split at h
          · rename_i he
            simp [hra, hrc, ih _ _ _ _ _ _ he hva hvc D hD', ihn _ _ _ _ _ _ _ _ hj h hu hv]
          · rename_i r hr1
            cases b with
            | true => exact absurd h hr1
            | false => simp [hra, hrc, ih _ _ _ _ _ _ h hva hvc D hD']
        · simp at h
    simp only [eqV] at h
    split at h
    · simp at h
    · rename_i i hi
      have hu := (hty t i hi).und
      split at h
      · rename_i hd; cases hx; cases hy; simp at h; subst h; simp [Op.equalIn, run_underlying hu, hd]
      · rename_i hd; cases hx; cases hy
        split at h
        · simp at h; subst h; simp [Op.equalIn, run_underlying hu, *]
        · simp at h
      · rename_i hd; cases hx with | str _ t1 h1 => cases hy with | str _ t2 h2 =>
        simp at h; subst h
        subst h1; subst h2; obtain ⟨⟨x⟩⟩ := t1; obtain ⟨⟨y⟩⟩ := t2; simp [Op.equalIn, run_underlying hu, hd, beq_toListBytes, ByteArray.toList_eq]
      · rename_i hd; cases hx with | iface _ _ v1 h1 => cases hy with | iface _ _ v2 h2 =>
        split at h
        · rename_i hne; simp at h; subst h; simp [Op.equalIn, run_underlying hu, hd, hne]
        · rename_i heq
          split at h
          · simp at h
          · rename_i j hj
            split at h
            · rename_i hcm
              have heq : _ = _ := Decidable.not_not.1 heq
              subst heq
              obtain ⟨inf, hinf, _, _, hcc⟩ := run_bytesC hty hj w
              simp [Op.equalIn, run_underlying hu, hd, hinf, hcc, hcm, ih _ _ _ _ _ _ h h1 h2 D hD']
            · simp at h
      · rename_i hd; cases hx; cases hy; simp at h; subst h; simp [Op.equalIn, run_underlying hu, hd]
      · rename_i hd; cases hx; cases hy; simp at h; subst h; simp [Op.equalIn, run_underlying hu, hd]
      · rename_i hd; cases hx; cases hy; simp at h; subst h; simp [Op.equalIn, run_underlying hu, hd]
      · rename_i fs xs ys hd
        cases hx with | agg _ us h1 => cases hy with | agg _ vs h2 =>
        split at h
        · simp at h
        · rename_i hheld
          have hsf : P.underlying t = some (.struct (P.fieldsOf t)) := by simp [Program.fieldsOf, hu, hd]
          have hfs : P.fieldsOf t = fs := by simp [Program.fieldsOf, hu, hd]
          rw [run_equalIn_struct w D t us.toArray vs.toArray hsf (by rw [(hty t i hi).held]; simpa using hheld), hfs]
          exact fieldsOk _ _ _ _ _ _ h h1 h2
      · rename_i len e xs ys hd
        cases hx with | agg _ us h1 => cases hy with | agg _ vs h2 =>
        split at h
        · simp at h
        · rename_i j hj
          rw [run_equalIn_array D t e len us.toArray vs.toArray (by rw [hu, hd]) j.size (run_sizeC hty hj w)]
          exact elemsOk _ _ _ _ _ _ _ _ _ hj h h1 h2
      · simp at h
end
end Go.Eng
