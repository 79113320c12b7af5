/- append and copy. -/
import Derived.Test.YtjfiojmfcpeaoaaEE5
import GoSem.Builtin.Append
import GoSem.Builtin.Copy
namespace Go.Eng
set_option linter.unusedVariables false

section
variable {P : Program} {N : Nat} {φ : Phi} {St : Stab} {h : Heap} {w : World}

/-- The elements of what is appended or copied. -/
def srcE (h : Heap) (j : TI) (x : CV) : Option (List CV) :=
  match x with
  | .slice esz xs _ _ => if esz = j.size ∨ xs = [] then some xs else none
  | .sref esz b off len _ _ => match h[b]? with
    | some (.cells cs) => if esz = j.size ∧ off + len * esz ≤ cs.length ∧ ((cs.drop off).take (len * esz)).all CV.one then some (chunks j.agg j.size len ((cs.drop off).take (len * esz))) else none
    | _ => none
  | .str s => match j.desc with
    | .int .u8 => some (s.map fun b => .int .u8 b.toNat)
    | _ => none
  | _ => none

/-- What is read of a source, in every world with the same cells. -/
structure SrcOk (P : Program) (w : World) (size n : Nat) (x : Value) (vs : List Value) : Prop where
  len : ∀ w', (Builtin.lenOf x).run P w' = .ok n w'
  total : vs.length = n * size
  cells : ∀ w' k, (∀ a, w'.cell? a = w.cell? a) → k ≤ n → (Builtin.firstCells size k x).run P w' = .ok (vs.take (k * size)).toArray w'

theorem flat_bytes : ∀ s : List UInt8, (s.map fun b : UInt8 => CV.int .u8 b.toNat).flatMap CV.flat = s.map fun b => CV.int .u8 b.toNat
  | [] => rfl
  | b :: s => by simpa [CV.flat] using flat_bytes s

theorem srcE_ok {ty : Ty} (hty : ty.Ok P) (R : Rel N φ St h w) {e : TypeId} {j : TI} (hj : ty e = some j) {x : CV} {ys : List CV} (hc : srcE h j x = some ys) {v : Value} (hx : VR φ St w x v) :
    ∃ vs, VRL φ St w (ys.flatMap CV.flat) vs ∧ SrcOk P w j.size ys.length v vs ∧ ∀ y ∈ ys, y.flat.length = j.size := by
  have rd : ∀ (a : Addr) (len cap : Nat) (vs : List Value), vs.length = len * j.size → (∀ (k : Nat) (v : Value), vs[k]? = some v → w.cell? (a.add k) = some v) → SrcOk P w j.size len (.slice (some a) len cap) vs := by
    intro a len cap vs hl hcell
    refine ⟨fun _ => rfl, hl, fun w' k hw hk => ?_⟩
    have hkl : (vs.take (k * j.size)).length = k * j.size := by
      have := Nat.mul_le_mul_right j.size hk
      simp; omega
    have := run_loadCells_list P w' a (vs.take (k * j.size)) (fun i u hu => by
      have hi : i < k * j.size := by have := (List.getElem?_eq_some_iff.1 hu).1; omega
      rw [List.getElem?_take_of_lt hi] at hu
      rw [hw]; exact hcell i u hu)
    rw [hkl] at this
    simpa [Builtin.firstCells] using this
  unfold srcE at hc
  split at hc
  · rename_i esz xs tok full
    split at hc <;> (try (simp at hc; done))
    rename_i hes
    simp at hc; subst hc
    cases hx with | slice _ _ _ _ a cap vs hat hvs hsz hcap hfull htok =>
    rcases hes with rfl | rfl
    · refine ⟨vs, hvs, ?_, hsz⟩
      rcases hat with rfl | ⟨a', rfl, hat⟩
      · cases hvs
        refine ⟨fun _ => rfl, by simp, fun w' k hw hk => ?_⟩
        have : k = 0 := by simpa using hk
        subst this
        cases a <;> simp [Builtin.firstCells, loadCells, loadCellsFrom]
      · have := hvs.length
        rw [flat_length _ hsz] at this
        exact rd a' _ _ _ this.symm (fun k v hv => hat.cell k v hv)
    · cases hvs
      refine ⟨[], .nil, ⟨fun _ => rfl, by simp, fun w' k hw hk => ?_⟩, by simp⟩
      have : k = 0 := by simpa using hk
      subst this
      cases a <;> simp [Builtin.firstCells, loadCells, loadCellsFrom]
  · rename_i esz b off len cap ex
    split at hc <;> (try (simp at hc; done))
    rename_i bs hb
    split at hc <;> (try (simp at hc; done))
    rename_i hes
    obtain ⟨rfl, hle, hone⟩ := hes
    simp only [Option.some.injEq] at hc; subst hc
    obtain ⟨r, base, size, rcap, hφ, rfl, _⟩ := alive_sref R hx (by simp [live, hb])
    obtain ⟨vs, hvs, hlen, hcell⟩ := R.cells hφ hb off (len * j.size) hle
    have hl2 : ((bs.drop off).take (len * j.size)).length = len * j.size := by simp; omega
    obtain ⟨g1, g2⟩ := chunks_flat (hty e j hj).one len ((bs.drop off).take (len * j.size)) (by omega) hone
    rw [g1, List.take_of_length_le (by omega), length_chunks]
    exact ⟨vs, hvs, rd _ _ _ _ hlen (fun k v hv => by rw [add_at]; exact hcell k v hv), g2⟩
  · rename_i s
    split at hc <;> (try (simp at hc; done))
    rename_i hd
    simp at hc; subst hc
    cases hx with | str _ t hs =>
    have f := hty e j hj
    have h1 : j.size = 1 := f.one (by rw [f.agg, hd]; rfl)
    have hts : t.size = s.length := by rw [← hs]; exact (Array.length_toList (xs := t.data)).symm
    have hfl := flat_bytes s
    refine ⟨s.map fun b => .int .u8 b.toNat, ?_, ⟨fun _ => by simp [Builtin.lenOf, hts], by simp [h1], fun w' k hw hk => ?_⟩, by simp [CV.flat, h1]⟩
    · rw [hfl]
      refine VRL.of_get (by simp) ?_
      intro i c v hc hv
      simp only [List.getElem?_map] at hc hv
      cases hsi : s[i]? with
      | none => simp [hsi] at hc
      | some b => simp [hsi] at hc hv; subst hc; subst hv; exact .int _ _
    · simp only [Builtin.firstCells, Sem.run_pure, h1, Nat.mul_one]
      congr 1
      apply Array.ext'
      simp [ByteArray.data_extract, ← hs, List.extract_eq_take_drop]
  · simp at hc

theorem cap_bound (need old b : Nat) (h1 : old < need) (h2 : need ≤ 2 ^ 44) (h3 : need * b ≤ 2 ^ 44) (hb : b ≤ 2 ^ 30) : Builtin.nextslicecap need old * b ≤ 2 ^ 48 := by
  have key : Builtin.nextslicecap need old ≤ 4 * need + 1000 := by
    unfold Builtin.nextslicecap
    split
    · omega
    · split
      · omega
      · have g : ∀ (r c : Nat), c ≤ 4 * need + 1000 → c < need + (need + 768) / 4 + 1 → Builtin.growBy need r c ≤ 4 * need + 1000 := by
          intro r
          induction r with
          | zero => intro c hc _; exact hc
          | succ r ih =>
            intro c hc hc2
            simp only [Builtin.growBy]
            split
            · exact hc
            · exact ih _ (by omega) (by omega)
        exact g 4 old (by omega) (by omega)
  have : Builtin.nextslicecap need old * b ≤ (4 * need + 1000) * b := Nat.mul_le_mul_right b key
  have e : (4 * need + 1000) * b = 4 * (need * b) + 1000 * b := by rw [Nat.add_mul, Nat.mul_assoc]
  omega

section
variable {t u e ty0 : TypeId} {inf : TypeInfo} {z : Value} {d : TypeDesc} (ht : P.underlying t = some (.slice e)) (hi : P.info? e = some inf) (hz : inf.zero = some z)
  (hu : P.underlying u = some d) (hk : ∀ k, d ≠ .int k) {x : Value} {base : Option Addr} {sLen sCap n : Nat} {olds news : List Value}
include ht hi hu hk

theorem run_append_in (hn : SrcOk P w inf.size n x news) (hroom : sLen + n ≤ sCap) {w' : World}
    (hst : ∀ a, base = some a → (storeCells (a.add (sLen * inf.size)) news).run P w = .ok () w') (hnone : base = none → w' = w) :
    (Builtin.append_ #[t, u] ty0 #[.slice base sLen sCap, x]).run P w = .ok (.slice base (sLen + n) sCap) w' := by
  have hnf := hn.cells w n (fun _ => rfl) (Nat.le_refl _)
  rw [← hn.total, List.take_length] at hnf
  have hl := hn.len w
  cases base with
  | none => simp [Builtin.append_, run_underlying ht, run_underlying hu, sizeOf, typeInfo, hi, hl, hroom, hnf, hnone rfl]
  | some a => simp [Builtin.append_, run_underlying ht, run_underlying hu, sizeOf, typeInfo, hi, hl, hroom, hnf, hst a rfl]

include hz
theorem run_append_grows (ho : SrcOk P w inf.size sLen (.slice base sLen sCap) olds) (hn : SrcOk P w inf.size n x news) (hg : sCap < sLen + n) (hb1 : sLen + n ≤ 2 ^ 44)
    (hb2 : (sLen + n) * inf.bytes ≤ 2 ^ 44) (hb3 : inf.bytes ≤ 2 ^ 30) :
    ∃ nc, sLen + n ≤ nc ∧ (Builtin.append_ #[t, u] ty0 #[.slice base sLen sCap, x]).run P w =
      .ok (.slice (some ⟨w.heap.size, 0, none⟩) (sLen + n) nc) (w.drew.alloc (.cells (olds.toArray ++ news.toArray ++ Builtin.zeroCells z.cells (nc - (sLen + n))) e)) := by
  refine ⟨grownCap w (sLen + n) sCap e, by simp [grownCap, Question.cut], ?_⟩
  have hn1 : ¬ (sLen + n ≤ sCap) := by omega
  have hfit := cap_bound (sLen + n) sCap inf.bytes hg hb1 hb2 hb3
  have h48 : ¬ (281474976710656 < Builtin.nextslicecap (sLen + n) sCap * inf.bytes) := by omega
  have h63 : ¬ (9223372036854775807 < ((sLen : Int) + (n : Int))) := by omega
  have hof := ho.cells w.drew sLen (fun _ => rfl) (Nat.le_refl _)
  have hnf := hn.cells w.drew n (fun _ => rfl) (Nat.le_refl _)
  rw [← ho.total, List.take_length] at hof
  rw [← hn.total, List.take_length] at hnf
  have hl := hn.len w
  simp [Builtin.append_, run_underlying ht, run_underlying hu, sizeOf, typeInfo, zeroValue, hi, hz, hl, hn1, h63, h48, Question.forced, hof, hnf, newRow, grownCap]
  congr 2
  apply Array.ext'
  simp
end

/-- An own block dies. -/
theorem Rel.kill (R : Rel N φ St h w) {b r base size : Nat} (hφ : φ b = some (.own r base size)) :
    Rel N (φ.put b .dead) St (h.set b .dead) w ∧ Frm h.length φ St w (φ.put b .dead) St w := by
  have hbl := R.dom b _ hφ
  have m : Mono φ St w (φ.put b .dead) St w := by
    refine ⟨fun b' => ?_, fun _ _ hs => hs, fun _ _ _ => rfl⟩
    by_cases hb : b' = b
    · subst hb; rw [put_same, hφ]; exact .die _
    · rw [put_other _ _ _ _ hb]; exact .refl _
  refine ⟨R.change b .dead .dead St (h.set b .dead) w m (Nat.le_refl _) (by rw [List.getElem?_set_self hbl]) (by simp) (fun b' e hne _ => by rw [List.getElem?_set_ne (Ne.symm hne)])
    (fun _ _ _ _ _ _ => rfl) R.stLt (fun _ _ hs => .inl hs) (fun r hr => by simp [Ent.blk] at hr) rfl, ?_⟩
  refine { toMono := m, size := Nat.le_refl _, stNew := fun _ _ hs => .inl hs, blkNew := ?_, keepBlk := fun _ _ _ => rfl, idNew := ?_, os := rfl, output := rfl, tape := rfl }
  · intro b' e r' hb he
    by_cases hbb : b' = b
    · subst hbb; rw [put_same] at hb; simp at hb; subst hb; simp [Ent.blk] at he
    · rw [put_other _ _ _ _ hbb] at hb; exact .inl ⟨b', e, hb, he⟩
  · intro b' hb hn
    by_cases hbb : b' = b
    · subst hbb; rw [hφ] at hn; simp at hn
    · rw [put_other _ _ _ _ hbb]; exact hn

/-- A draw turns no memory. -/
theorem Rel.drew (R : Rel N φ St h w) : Rel N φ St h w.drew ∧ Mono φ St w φ St w.drew := by
  have m : Mono φ St w φ St w.drew := ⟨fun _ => .refl _, fun _ _ h => h, fun _ _ _ => rfl⟩
  refine ⟨⟨R.dom, R.dead, ?_, R.tail, ?_, R.inj, R.stLt, R.stOwn, R.stTail, R.start, R.void⟩, m⟩
  · intro b r base size hb
    obtain ⟨h1, cs, arr, elem, h2, h3, h4, h5, h6⟩ := R.own b r base size hb
    exact ⟨h1, cs, arr, elem, h2, h3, h4, h5, fun j c hc => let ⟨v, a, b⟩ := h6 j c hc; ⟨v, a, b.mono m⟩⟩
  · intro b r hb
    obtain ⟨h1, o, O, h2, h3, h4⟩ := R.obj b r hb
    exact ⟨h1, o, O, h2, h3, h4.mono m⟩
theorem Frm.drew (n : Nat) (φ : Phi) (St : Stab) (w : World) : Frm n φ St w φ St w.drew :=
  Frm.quiet ⟨fun _ => .refl _, fun _ _ h => h, fun _ _ _ => rfl⟩ (Nat.le_refl _) (fun _ _ _ => rfl) rfl rfl rfl
end
end Go.Eng
