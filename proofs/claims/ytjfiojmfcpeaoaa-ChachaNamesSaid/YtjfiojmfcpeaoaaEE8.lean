/- append is as the model's. -/
import Derived.Test.YtjfiojmfcpeaoaaEE7
namespace Go.Eng
set_option linter.unusedVariables false

section
variable {P : Program} {N : Nat} {φ : Phi} {St : Stab} {h : Heap} {w : World}

theorem tail_of (R : Rel N φ St h w) {k u : Nat} (hk : h[k]? = some (.tail u)) (hn : φ k ≠ none) : φ k = some (.void u) ∨ ∃ r used size, φ k = some (.tail r used u size) := by
  cases hφ : φ k with
  | none => exact absurd hφ hn
  | some e =>
    cases e with
    | own r base size => obtain ⟨_, cs, _, _, hc, _⟩ := R.own k r base size hφ; rw [hk] at hc; simp at hc
    | tail r used u' size => obtain ⟨_, hc, _⟩ := R.tail k r used u' size hφ; rw [hk] at hc; simp at hc; subst hc; exact .inr ⟨r, used, size, rfl⟩
    | obj r => obtain ⟨_, o, O, hc, _, ho⟩ := R.obj k r hφ; rw [hk] at hc; simp at hc; subst hc; cases ho
    | void u' => have := R.void k u' hφ; rw [hk] at this; simp at this; subst this; exact .inl rfl
    | dead => have := R.dead k hφ; rw [hk] at this; simp at this

/-- A world that was changed in a block that nobody knows. -/
theorem Rel.outside (R : Rel N φ St h w) {r : Nat} {arr arr' : Array Value} {elem : TypeId × Nat × Nat} (hw : w.heap[r]? = some (.cells arr elem.1 elem.2))
    (hno : ∀ b e, φ b = some e → e.blk ≠ some r) (hst : ∀ j, ¬ St r j) : Rel N φ St h (w.setRow r arr') ∧ Mono φ St w φ St (w.setRow r arr') := by
  have hother : ∀ r', r' ≠ r → (w.setRow r arr').heap[r']? = w.heap[r']? := fun r' hr => setRow_other w r r' _ hr
  have m : Mono φ St w φ St (w.setRow r arr') := ⟨fun _ => .refl _, fun _ _ h => h, fun r' j hs => cell_setRow_other w r _ ⟨r', j, none⟩ (fun e => hst j (e ▸ hs))⟩
  refine ⟨⟨R.dom, R.dead, ?_, ?_, ?_, R.inj, ?_, R.stOwn, R.stTail, by simpa using R.start, R.void⟩, m⟩
  · intro b r' base size hb
    obtain ⟨h1, cs, a, e, h2, h3, h4, h5, h6⟩ := R.own b r' base size hb
    exact ⟨h1, cs, a, e, h2, by rw [hother r' (fun x => hno b _ hb (x ▸ rfl))]; exact h3, h4, h5, fun j c hc => let ⟨v, a, b⟩ := h6 j c hc; ⟨v, a, b.mono m⟩⟩
  · intro k r' used u size hb
    obtain ⟨h1, h2, h3, a, e, h4, h5⟩ := R.tail k r' used u size hb
    exact ⟨h1, h2, h3, a, e, by rw [hother r' (fun x => hno k _ hb (x ▸ rfl))]; exact h4, h5⟩
  · intro b r' hb
    obtain ⟨h1, o, O, h2, h3, h4⟩ := R.obj b r' hb
    exact ⟨h1, o, O, h2, by rw [hother r' (fun x => hno b _ hb (x ▸ rfl))]; exact h3, h4.mono m⟩
  · intro r' j hs; simpa using R.stLt r' j hs

/-- A token for a slice that has no room. -/
theorem Rel.push_void (R : Rel N φ St h w) (u : Nat) : Rel N (φ.push h.length (.void u)) St (h ++ [.tail u]) w ∧ Frm h.length φ St w (φ.push h.length (.void u)) St w := by
  have m : Mono φ St w (φ.push h.length (.void u)) St w := by
    refine ⟨fun b => ?_, fun _ _ hs => hs, fun _ _ _ => rfl⟩
    unfold Phi.push
    split
    · subst_vars; rw [R.noEnt]; exact .fresh _
    · exact .refl _
  refine ⟨?_, ?_⟩
  · have := R.change h.length (.void u) (.tail u) St (h ++ [.tail u]) w m (Nat.le_refl _) (by simp) (by simp) (fun b' e hne hb' => by rw [List.getElem?_append_left (R.dom b' e hb')])
      (fun _ _ _ _ _ _ => rfl) R.stLt (fun _ _ hs => .inl hs) (fun r hr => by simp [Ent.blk] at hr) rfl
    exact this
  · refine { toMono := m, size := Nat.le_refl _, stNew := fun _ _ hs => .inl hs, blkNew := fun b e r hb he => ?_, keepBlk := fun _ _ _ => rfl, idNew := fun b hb hn => ?_, os := rfl, output := rfl, tape := rfl }
    · unfold Phi.push at hb
      split at hb
      · simp at hb; subst hb; simp [Ent.blk] at he
      · exact .inl ⟨b, e, hb, he⟩
    · unfold Phi.push; rw [if_neg (by omega)]; exact hn

theorem append_same {t u e ty0 : TypeId} {inf : TypeInfo} {d : TypeDesc} (ht : P.underlying t = some (.slice e)) (hi : P.info? e = some inf)
    (hu : P.underlying u = some d) (hk : ∀ k, d ≠ .int k) {x : Value} {base : Option Addr} {sLen sCap : Nat} (hn : SrcOk P w inf.size 0 x []) (hle : sLen ≤ sCap) :
    (Builtin.append_ #[t, u] ty0 #[.slice base sLen sCap, x]).run P w = .ok (.slice base sLen sCap) w :=
  run_append_in (w' := w) ht hi hu hk hn (by omega) (fun a _ => rfl) (fun _ => rfl)

variable {ty : Ty} (hty : ty.Ok P) (R : Rel N φ St h w)
include hty R
theorem appendC_ok {lit : Bool} {t u t0 : TypeId} {s x c : CV} {h' : Heap} (hc : appendC lit ty h t u s x = some (c, h')) {vs vx : Value} (hs : VR φ St w s vs) (hx : VR φ St w x vx) :
    OpOk P N φ St h w (Builtin.append_ #[t, u] t0 #[vs, vx]) c h' := by
  unfold appendC at hc
  split at hc <;> (try (simp at hc; done))
  rename_i i iu hti htu
  have hut := (hty _ _ hti).und
  have huu := (hty _ _ htu).und
  split at hc <;> (try (simp at hc; done))
  rename_i e hd
  rw [hd] at hut
  split at hc <;> (try (simp at hc; done))
  rename_i j hj
  obtain ⟨inf, z, g1, g2, g3, g4, g5, g6, _⟩ := (hty e j hj).info
  split at hc <;> (try (simp at hc; done))
  rename_i hcond
  have hk : ∀ k, iu.desc ≠ .int k := fun k hk => hcond (.inl (by rw [hk]; rfl))
  have hby : inf.bytes ≤ 2 ^ 30 := by
    have : ¬ 2 ^ 30 < j.bytes := fun h => hcond (.inr h)
    omega
  split at hc <;> (try (simp at hc; done))
  rename_i ys xs hys hxs
  obtain ⟨nvs, hnv, hns, hnsz⟩ := srcE_ok hty R hj hys hx
  obtain ⟨ovs, hov, hos, hosz⟩ := srcE_ok hty R hj hxs hs
  rw [← g2] at hns hos
  have hzs : z.cells.size = inf.size := by
    have := (ofVs_ok (φ := φ) (St := St) (w := w) g5).length
    rw [← Array.length_toList]; omega
  split at hc
  · -- nothing is appended
    rename_i hye
    obtain ⟨hye, hlit⟩ := hye
    subst hye
    cases hnv
    split at hc <;> (try (simp at hc; done))
    · rename_i esz xs0 tok full
      have hxs0 : xs0 = xs ∧ (esz = j.size ∨ xs = []) := by
        simp only [srcE] at hxs
        split at hxs
        · rename_i hh; simp at hxs; subst hxs; exact ⟨rfl, hh⟩
        · simp at hxs
      obtain ⟨rfl, hesz⟩ := hxs0
      have hs' := hs
      cases hs with | slice _ _ _ _ a cap vs hat hvs hsz hcap hfull htok =>
      split at hc
      · have hszj : ∀ x ∈ xs0, x.flat.length = j.size := by
          rcases hesz with rfl | rfl
          · exact hsz
          · simp
        split at hc
        · rename_i hf
          simp at hc; obtain ⟨rfl, rfl⟩ := hc
          have ⟨R1, F1⟩ := R.push_void xs0.length
          refine ⟨_, w, _, St, append_same hut g1 huu hk hns hcap, R1, ?_, F1⟩
          exact .slice j.size xs0 (some h.length) false a cap vs hat (hvs.mono F1.toMono) hszj hcap (by simp)
            ⟨by simp [Phi.push], fun u hu => by simp [Phi.push] at hu; exact ⟨by omega, fun _ => hfull hf⟩, by simp [Phi.push]⟩
        · split at hc <;> (try (simp at hc; done))
          rename_i k
          split at hc <;> (try (simp at hc; done))
          rename_i v0 hkk
          split at hc <;> (try (simp at hc; done))
          rename_i hv0
          obtain ⟨rfl, rfl⟩ := hv0
          simp at hc; obtain ⟨rfl, rfl⟩ := hc
          have hset : h.set k (.tail xs0.length) = h := by
            apply List.ext_getElem?
            intro i
            by_cases hi : i = k
            · subst hi; rw [List.getElem?_set_self (List.getElem?_eq_some_iff.1 hkk).1, hkk]
            · rw [List.getElem?_set_ne (Ne.symm hi)]
          rw [hset]
          exact OpOk.pure R (append_same hut g1 huu hk hns hcap) (.slice j.size xs0 (some k) false a cap vs hat hvs hsz hcap (by simp) htok)
      · simp at hc; obtain ⟨rfl, rfl⟩ := hc
        exact OpOk.pure R (append_same hut g1 huu hk hns hcap) hs'
    · rename_i esz b off len cap ex
      simp at hc; obtain ⟨rfl, rfl⟩ := hc
      have hs' := hs
      have hlive : live h b = true := by
        simp only [srcE] at hxs
        split at hxs <;> (try (simp at hxs; done))
        rename_i cs hb; simp [live, hb]
      obtain ⟨r, base, size, rcap, hφ, rfl, k1, k2, k3, k4⟩ := alive_sref R hs hlive
      exact OpOk.pure R (append_same hut g1 huu hk hns (by omega)) hs'
  rename_i hyne
  split at hc <;> (try (simp at hc; done))
  rename_i hcond2
  have hbig : (xs.length + ys.length) * (j.bytes + 1) ≤ 2 ^ 44 := by
    rcases Nat.lt_or_ge (2 ^ 44) ((xs.length + ys.length) * (j.bytes + 1)) with h1 | h1
    · exact absurd (.inl h1) hcond2
    · exact h1
  have hone : ((xs ++ ys).flatMap CV.flat).all CV.one = true := by
    revert hcond2
    cases ((xs ++ ys).flatMap CV.flat).all CV.one <;> simp
  rw [Nat.mul_add, Nat.mul_one] at hbig
  have hylen : ys = [] → (lit = true ∧ isSref s = true) := fun e => by
    cases hb : (lit && isSref s) with
    | false => exact absurd ⟨e, hb⟩ hyne
    | true => simpa using hb
  have hylen' : isSref s = false → 0 < ys.length := fun e => List.length_pos_iff.2 fun h => by have := (hylen h).2; rw [e] at this; simp at this
  have hallsz : ∀ y ∈ xs ++ ys, y.flat.length = j.size := by
    intro y hy
    rcases List.mem_append.1 hy with hy | hy
    · exact hosz y hy
    · exact hnsz y hy
  have hall : VRL φ St w ((xs ++ ys).flatMap CV.flat) (ovs ++ nvs) := by rw [List.flatMap_append]; exact hov.append hnv
  have hallen : (ovs ++ nvs).length = (xs.length + ys.length) * j.size := by
    rw [List.length_append, hos.total, hns.total, ← Nat.add_mul, g2]
  have hrestsz : ∀ nc, (Builtin.zeroCells z.cells (nc - (xs.length + ys.length))).size = (nc - (xs.length + ys.length)) * j.size := by
    intro nc; rw [size_zeroCells, hzs, g2]
  have hnone : ∀ v ∈ nvs, v.oneCell' = true := hnv.one (by
    intro c hc'
    rw [List.all_eq_true] at hone
    exact hone c (by rw [List.flatMap_append]; exact List.mem_append.2 (.inr hc')))
  have grow : ∀ base sCap, sCap < xs.length + ys.length → vs = .slice base xs.length sCap → ∃ nc, xs.length + ys.length ≤ nc ∧ (Builtin.append_ #[t, u] t0 #[vs, vx]).run P w =
      .ok (.slice (some ⟨w.heap.size, 0, none⟩) (xs.length + ys.length) nc) (w.drew.alloc (.cells ((ovs ++ nvs).toArray ++ Builtin.zeroCells z.cells (nc - (xs.length + ys.length))) e)) := by
    intro base sCap hg hvs
    subst hvs
    obtain ⟨nc, a1, a2⟩ := run_append_grows (ty0 := t0) hut g1 g4 huu hk hos hns hg (by omega) (by rw [g3]; omega) hby
    exact ⟨nc, a1, by rw [a2]; simp⟩
  split at hc <;> (try (simp at hc; done))
  · -- a slice that is not written
    rename_i esz xs0 tok full
    have hxs0 : xs0 = xs ∧ (esz = j.size ∨ xs = []) := by
      simp only [srcE] at hxs
      split at hxs
      · rename_i hh; simp at hxs; subst hxs; exact ⟨rfl, hh⟩
      · simp at hxs
    obtain ⟨rfl, hesz⟩ := hxs0
    have hylen := hylen' rfl
    cases hs with | slice _ _ _ _ a cap vs0 hat hvs0 hsz hcap hfull htok =>
    split at hc
    · rename_i hf
      obtain ⟨nc, n1, hrun⟩ := grow a cap (by have := hfull hf; omega) rfl
      split at hc
      · simp at hc; obtain ⟨rfl, rfl⟩ := hc
        obtain ⟨φ', St', R', V', F'⟩ := new_tail R (n := xs0.length + ys.length) (nc := nc) (e := e) hall hallsz (by simp) n1 (hrestsz nc) h.length (h ++ [.tail (xs0.length + ys.length)]) (.inl ⟨rfl, rfl⟩)
        exact ⟨_, _, φ', St', hrun, R', V', F'⟩
      · simp at hc; obtain ⟨rfl, rfl⟩ := hc
        obtain ⟨φ', R', V', F'⟩ := new_own R (size := j.size) (n := xs0.length + ys.length) (nc := nc) (e := e) hall hallen n1 (hrestsz nc)
        refine ⟨_, _, φ', St, hrun, ?_, V', F'⟩
        simpa [List.flatMap_append] using R'
    · split at hc <;> (try (simp at hc; done))
      rename_i k
      split at hc <;> (try (simp at hc; done))
      rename_i v0 hkk
      split at hc <;> (try (simp at hc; done))
      rename_i hv0
      obtain ⟨rfl, rfl⟩ := hv0
      simp at hc; obtain ⟨rfl, rfl⟩ := hc
      obtain ⟨tn, tv, tk⟩ := htok
      rcases tail_of R hkk tn with hφ | ⟨r, used, size, hφ⟩
      · have hcap0 := (tv _ hφ).2 rfl
        obtain ⟨nc, n1, hrun⟩ := grow a cap (by omega) rfl
        obtain ⟨φ', St', R', V', F'⟩ := new_tail R (n := xs0.length + ys.length) (nc := nc) (e := e) hall hallsz (by simp) n1 (hrestsz nc) k (h.set k (.tail (xs0.length + ys.length)))
          (.inr ⟨.inl ⟨_, hφ, by omega⟩, rfl⟩)
        exact ⟨_, _, φ', St', hrun, R', V', F'⟩
      obtain ⟨_, tk⟩ := tk r used _ size hφ
      obtain ⟨a', rfl, ha1, ha2, ha3, ha4⟩ := tk rfl
      by_cases hroom : xs0.length + ys.length ≤ cap
      · obtain ⟨hN, _, hu2, arr, elem, hw, hsz2⟩ := R.tail k r used _ size hφ
        have hnl : nvs.length = ys.length * j.size := by rw [hns.total, g2]
        have hcapm : (xs0.length + ys.length) * j.size ≤ cap * j.size := Nat.mul_le_mul_right _ hroom
        rw [Nat.add_mul] at hcapm
        obtain ⟨w', φ', St', hst, R', m, hφ', hφo, hSt', hStn, hcell, hoth, hwsz, ho1, ho2, ho3⟩ := tail_in (P := P) R (k := k) (r := r) (lo := used) (p := used) (n := xs0.length + ys.length)
          hN hw hsz2 hnone (by omega) (Nat.le_refl _) (h.set k (.tail (xs0.length + ys.length)))
          (fun b e' hne hb he => hne (R.inj b k e' _ r hb hφ he rfl)) (fun j' hs' => R.stTail k r used _ size j' hφ hs') (.inr ⟨_, hφ, by omega, rfl⟩)
        have hadd : a'.add (xs0.length * inf.size) = ⟨r, used, none⟩ := by rw [add_at' a' ha1, ha2, g2, ha3]
        have hrun := run_append_in (ty0 := t0) (base := some a') (sLen := xs0.length) (sCap := cap) hut g1 huu hk hns hroom (w' := w') (fun a'' ha'' => by simp at ha''; subst ha''; rw [hadd]; exact hst) (by simp)
        refine ⟨_, _, φ', St', hrun, R', ?_, { toMono := m, size := by omega, stNew := ?_, blkNew := ?_, keepBlk := ?_, idNew := ?_, os := ho1, output := ho2, tape := ho3 }⟩
        · have hatold : xs0 = [] ∨ At St' w' a' vs0 := by
            rcases hat with h1 | ⟨a1, h1, h2⟩
            · exact .inl h1
            · simp at h1; subst h1; exact .inr (h2.mono m)
          have hvl := hvs0.length
          rw [flat_length _ hsz] at hvl
          have hnew : ∀ (i : Nat) (v : Value), nvs[i]? = some v → St' r (used + i) ∧ w'.cell? ⟨r, used + i, none⟩ = some v := by
            intro i v hv
            have hi : i < nvs.length := (List.getElem?_eq_some_iff.1 hv).1
            refine ⟨hSt' _ (by omega) (by omega), ?_⟩
            rw [hcell, get_splice _ _ _ (by simp; omega), if_neg (by omega), if_pos (by omega), show used + i - used = i by omega]; exact hv
          have hat' : At St' w' a' (vs0 ++ nvs) := by
            refine ⟨ha1, fun i v hv => ?_⟩
            rw [List.getElem?_append] at hv
            split at hv
            · rename_i hi
              rcases hatold with h1 | h1
              · subst h1; simp at hvl; omega
              · exact h1.2 i v hv
            · rename_i hi
              have := hnew _ v hv
              rw [ha2, show a'.off + i = used + (i - vs0.length) by omega]; exact this
          have := VR.slice (φ := φ') (St := St') (w := w') j.size (xs0 ++ ys) (some k) false (some a') cap (vs0 ++ nvs) (.inr ⟨a', rfl, hat'⟩)
            (by rw [List.flatMap_append]; exact (hvs0.mono m).append (hnv.mono m)) hallsz (by simpa using hroom) (by simp) ?_
          · simpa using this
          · refine ⟨by rw [hφ']; simp, by rw [hφ']; simp, fun r0 used0 u0 size0 he => ?_⟩
            rw [hφ'] at he; simp at he
            obtain ⟨rfl, rfl, rfl, rfl⟩ := he
            refine ⟨by simp, fun _ => ⟨a', rfl, ha1, ha2, ?_, ha4⟩⟩
            simp [Nat.add_mul]; omega
        · intro r' j' hs'
          rcases hStn r' j' hs' with h1 | rfl
          · exact .inl h1
          · exact .inr (.inr ⟨k, _, hφ, rfl⟩)
        · intro b e' r' hb he
          by_cases hbk : b = k
          · subst hbk; rw [hφ'] at hb; simp at hb; subst hb; simp [Ent.blk] at he; subst he; exact .inl ⟨b, _, hφ, rfl⟩
          · rw [hφo b hbk] at hb; exact .inl ⟨b, e', hb, he⟩
        · intro r' hr hno
          exact hoth r' (fun e' => hno k _ hφ (e' ▸ rfl))
        · intro b hb hn
          by_cases hbk : b = k
          · subst hbk; rw [hφ] at hn; simp at hn
          · rw [hφo b hbk]; exact hn
      · obtain ⟨nc, n1, hrun⟩ := grow (some a') cap (by omega) rfl
        obtain ⟨φ', St', R', V', F'⟩ := new_tail R (n := xs0.length + ys.length) (nc := nc) (e := e) hall hallsz (by simp) n1 (hrestsz nc) k (h.set k (.tail (xs0.length + ys.length)))
          (.inr ⟨.inr ⟨r, used, _, size, hφ, by omega⟩, rfl⟩)
        exact ⟨_, _, φ', St', hrun, R', V', F'⟩
  · -- a slice of own cells
    rename_i esz b off len cap ex
    have hsr : ∃ cs, h[b]? = some (.cells cs) ∧ esz = j.size ∧ off + len * esz ≤ cs.length ∧ xs.length = len := by
      simp only [srcE] at hxs
      split at hxs <;> (try (simp at hxs; done))
      rename_i cs hb
      split at hxs <;> (try (simp at hxs; done))
      rename_i hh
      simp at hxs
      exact ⟨cs, hb, hh.1, hh.2.1, by rw [← hxs, length_chunks]⟩
    obtain ⟨cs, hb, rfl, hle, rfl⟩ := hsr
    obtain ⟨r, base, size, rcap, hφ, rfl, k1, k2, k3, k4⟩ := alive_sref R hs (by simp [live, hb])
    obtain ⟨R1, F1⟩ := R.kill hφ
    have hall1 := hall.mono F1.toMono
    have hno1 : ∀ b' e', (φ.put b .dead) b' = some e' → e'.blk ≠ some r := by
      intro b' e' hb' he
      by_cases hbb : b' = b
      · subst hbb; rw [put_same] at hb'; simp at hb'; subst hb'; simp [Ent.blk] at he
      · rw [put_other _ _ _ _ hbb] at hb'; exact hbb (R.inj b' b e' _ r hb' hφ he rfl)
    have hlen1 : (h.set b HObj.dead).length = h.length := by simp
    by_cases hroom : xs.length + ys.length ≤ rcap
    · obtain ⟨hN, cs', arr, elem, hcs, hw, ⟨hasz, hz⟩, hin, hvals⟩ := R.own b r base size hφ
      rw [hb] at hcs; simp at hcs; subst hcs
      have hnl : nvs.length = ys.length * j.size := by rw [hns.total, g2]
      have hol : ovs.length = xs.length * j.size := by rw [hos.total, g2]
      have hcapm : (xs.length + ys.length) * j.size ≤ rcap * j.size := Nat.mul_le_mul_right _ hroom
      rw [Nat.add_mul] at hcapm
      have hp : (⟨r, base + off, none⟩ : Addr).add (xs.length * inf.size) = ⟨r, base + off + xs.length * j.size, none⟩ := by rw [add_at, g2]
      have holds : ∀ (i : Nat) (v : Value), ovs[i]? = some v → arr[base + off + i]? = some v := by
        intro i v hv
        have hi : i < ovs.length := (List.getElem?_eq_some_iff.1 hv).1
        have hfc := hos.cells w xs.length (fun _ => rfl) (Nat.le_refl _)
        have hlc : (loadCells ⟨r, base + off, none⟩ (xs.length * inf.size)).run P w = .ok ((List.range (xs.length * inf.size)).map fun i => arr.getD (base + off + i) default).toArray w := by
          refine run_loadCells w ⟨r, base + off, none⟩ _ (fun i => arr.getD (base + off + i) default) fun i hi => ?_
          rw [add_at, cell_of_row w r _ arr elem.1 elem.2 hw]
          have : base + off + i < arr.size := by rw [g2] at hi; omega
          simp [Array.getD, this]
        simp only [Builtin.firstCells] at hfc
        rw [hlc] at hfc
        simp only [Result.ok.injEq, and_true] at hfc
        have h2 := congrArg Array.toList hfc
        simp only at h2
        rw [← hos.total, List.take_length] at h2
        have h3 : ovs[i]? = (List.map (fun i => arr.getD (base + off + i) default) (List.range ovs.length))[i]? := by rw [h2]
        rw [hv] at h3
        have hba : base + off + i < arr.size := by omega
        simp [hi, Array.getD, hba] at h3
        rw [Array.getElem?_eq_getElem hba, h3]
      split at hc
      · -- not written from now on
        simp at hc; obtain ⟨rfl, rfl⟩ := hc
        obtain ⟨w', φ', St', hst, R', m, hφ', hφo, hSt', hStn, hcell, hoth, hwsz, ho1, ho2, ho3⟩ := tail_in (P := P) R1 (k := h.length) (r := r) (lo := base + off) (p := base + off + xs.length * j.size) (n := xs.length + ys.length)
          hN hw ⟨hasz, hz⟩ hnone (by omega) (by omega) (h.set b .dead ++ [.tail (xs.length + ys.length)])
          (fun b' e' _ hb' => hno1 b' e' hb') (fun j' hs' => absurd hs' (R.stOwn b r base size j' hφ)) (.inl ⟨by simp, rfl, by have := R1.noEnt; rwa [hlen1] at this⟩)
        have hrun := run_append_in (ty0 := t0) (base := some ⟨r, base + off, none⟩) (sLen := xs.length) (sCap := rcap) hut g1 huu hk hns hroom (w' := w') (fun a'' ha'' => by simp at ha''; subst ha''; rw [hp]; exact hst) (by simp)
        have F2 : Frm (h.set b .dead).length (φ.put b .dead) St w φ' St' w' → True := fun _ => trivial
        refine ⟨_, _, φ', St', hrun, R', ?_, { toMono := F1.toMono.trans m, size := by omega, stNew := ?_, blkNew := ?_, keepBlk := ?_, idNew := ?_, os := ho1, output := ho2, tape := ho3 }⟩
        · have hat' : At St' w' ⟨r, base + off, none⟩ (ovs ++ nvs) := by
            refine ⟨rfl, fun i v hv => ?_⟩
            have hi : i < (ovs ++ nvs).length := (List.getElem?_eq_some_iff.1 hv).1
            rw [List.length_append] at hi
            refine ⟨hSt' _ (by simp) (by simp; omega), ?_⟩
            show w'.cell? ⟨r, base + off + i, none⟩ = some v
            rw [hcell, get_splice _ _ _ (by simp; omega)]
            rw [List.getElem?_append] at hv
            by_cases hi2 : i < ovs.length
            · rw [if_pos hi2] at hv
              rw [if_pos (by omega)]
              simpa using holds i v hv
            · rw [if_neg hi2] at hv
              rw [if_neg (by omega), if_pos (by omega), show base + off + i - (base + off + xs.length * j.size) = i - ovs.length by omega]; exact hv
          have := VR.slice (φ := φ') (St := St') (w := w') j.size (xs ++ ys) (some h.length) false (some ⟨r, base + off, none⟩) rcap (ovs ++ nvs) (.inr ⟨_, rfl, hat'⟩)
            (hall1.mono m) hallsz (by simpa using hroom) (by simp) ?_
          · simpa using this
          · refine ⟨by rw [hφ']; simp, by rw [hφ']; simp, fun r0 used0 u0 size0 he => ?_⟩
            rw [hφ'] at he; simp at he
            obtain ⟨rfl, rfl, rfl, rfl⟩ := he
            refine ⟨by simp, fun _ => ⟨_, rfl, rfl, rfl, ?_, k4⟩⟩
            simp [Nat.add_mul]; omega
        · intro r' j' hs'
          rcases hStn r' j' hs' with h1 | rfl
          · exact .inl h1
          · exact .inr (.inr ⟨b, _, hφ, rfl⟩)
        · intro b' e' r' hb' he
          by_cases hbk : b' = h.length
          · subst hbk; rw [hφ'] at hb'; simp at hb'; subst hb'; simp [Ent.blk] at he; subst he; exact .inl ⟨b, _, hφ, rfl⟩
          · rw [hφo b' hbk] at hb'
            exact F1.blkNew b' e' r' hb' he
        · intro r' hr hno
          exact hoth r' (fun e' => hno b _ hφ (e' ▸ rfl))
        · intro b' hb' hn
          rw [hφo b' (by omega)]
          exact F1.idNew b' hb' hn
      · -- written
        simp at hc; obtain ⟨rfl, rfl⟩ := hc
        have hrs := run_storeCells_fz P r (base + off + xs.length * j.size) elem.1 elem.2 nvs 0 arr w hw (by omega) hnone (by rw [hasz]; exact hz)
        simp only [Nat.add_zero] at hrs
        generalize harr' : (arr.toList.take (base + off + xs.length * j.size) ++ nvs ++ arr.toList.drop (base + off + xs.length * j.size + nvs.length)).toArray = arr' at hrs
        have harl : ∀ i : Nat, arr'[i]? = (splice arr.toList (base + off + xs.length * j.size) nvs)[i]? := by intro i; rw [← harr']; simp [splice]
        have harz : arr'.size = size := by
          rw [← harr']
          have := length_splice arr.toList (base + off + xs.length * j.size) nvs (by simp; omega)
          simp only [splice] at this
          rw [List.size_toArray, this]; simpa using hasz
        obtain ⟨R2, m2⟩ := R1.outside (arr' := arr') hw hno1 (fun j' hs' => R.stOwn b r base size j' hφ hs')
        obtain ⟨R3, m3⟩ := R2.adopt (base := base + off) hN (setRow_heap w r arr arr' elem.1 elem.2 hw) ⟨harz, hz⟩ hno1 (fun j' hs' => R.stOwn b r base size j' hφ hs') (hall1.mono m2)
          (by rw [flat_length _ hallsz]; simp [Nat.add_mul]; omega) (fun i v hv => by
            have hi : i < (ovs ++ nvs).length := (List.getElem?_eq_some_iff.1 hv).1
            rw [List.length_append] at hi
            rw [harl, get_splice _ _ _ (by simp; omega)]
            rw [List.getElem?_append] at hv
            by_cases hi2 : i < ovs.length
            · rw [if_pos hi2] at hv
              rw [if_pos (by omega)]
              simpa using holds i v hv
            · rw [if_neg hi2] at hv
              rw [if_neg (by omega), if_pos (by omega), show base + off + i - (base + off + xs.length * j.size) = i - ovs.length by omega]; exact hv)
        have hrun := run_append_in (ty0 := t0) (base := some ⟨r, base + off, none⟩) (sLen := xs.length) (sCap := rcap) hut g1 huu hk hns hroom (w' := w.setRow r arr') (fun a'' ha'' => by simp at ha''; subst ha''; rw [hp]; exact hrs) (by simp)
        rw [hlen1] at R3 m3
        refine ⟨_, _, _, St, hrun, by simpa [List.flatMap_append] using R3, ?_, { toMono := (F1.toMono.trans m2).trans m3, size := by simp, stNew := fun _ _ hs' => .inl hs', blkNew := ?_, keepBlk := ?_, idNew := ?_, os := rfl, output := rfl, tape := rfl }⟩
        · exact .sref _ _ 0 _ _ false r (base + off) size rcap (put_same _ _ _) hroom (Nat.le_refl _) (by simp) (by omega)
        · intro b' e' r' hb' he
          by_cases hbk : b' = h.length
          · subst hbk; rw [put_same] at hb'; simp at hb'; subst hb'; simp [Ent.blk] at he; subst he; exact .inl ⟨b, _, hφ, rfl⟩
          · rw [put_other _ _ _ _ hbk] at hb'
            exact F1.blkNew b' e' r' hb' he
        · intro r' hr hno
          exact setRow_other w r r' _ (fun e' => hno b _ hφ (e' ▸ rfl))
        · intro b' hb' hn
          rw [put_other _ _ _ _ (by omega)]
          exact F1.idNew b' hb' hn
    · obtain ⟨nc, n1, hrun⟩ := grow (some ⟨r, base + off, none⟩) rcap (by omega) rfl
      split at hc
      · simp at hc; obtain ⟨rfl, rfl⟩ := hc
        obtain ⟨φ', St', R', V', F'⟩ := new_tail R1 (n := xs.length + ys.length) (nc := nc) (e := e) hall1 hallsz (by simp) n1 (hrestsz nc) (h.set b .dead).length (h.set b .dead ++ [.tail (xs.length + ys.length)]) (.inl ⟨rfl, rfl⟩)
        rw [hlen1] at V' F'
        exact ⟨_, _, φ', St', hrun, R', V', F1.trans F' (Nat.le_refl _)⟩
      · simp at hc; obtain ⟨rfl, rfl⟩ := hc
        obtain ⟨φ', R', V', F'⟩ := new_own R1 (size := j.size) (n := xs.length + ys.length) (nc := nc) (e := e) hall1 hallen n1 (hrestsz nc)
        rw [hlen1] at V' F'
        refine ⟨_, _, φ', St, hrun, by simpa [List.flatMap_append] using R', V', F1.trans F' (Nat.le_refl _)⟩
end
end Go.Eng
