/- Cells put into an order, and back. -/
import Derived.Test.YtfbabemgneaekaaPerm
import Derived.Test.YtfbabemgneaekaaMid
import Derived.Test.YtfbabemgneaekaaFns
namespace Go.Proofs.Ytfbabemgneaekaa
open Go.Eng
set_option linter.unusedVariables false
set_option linter.unusedSimpArgs false

def ordS (p c : List Int) : Int := if p.length > 1024 then 4 else if isP p = true ∧ c.length = p.length then 0 else 2
theorem igt_len {l : List Int} {n : Nat} (h : l.length > n) : Dat.igt (Dat.ofN (Dat.len l)) (n : Int) = true := by simp [Dat.igt]; omega
theorem igt_len0 {l : List Int} {n : Nat} (h : ¬ l.length > n) : Dat.igt (Dat.ofN (Dat.len l)) (n : Int) = false := by simp [Dat.igt]; omega
theorem igt1024 {l : List Int} (h : l.length > 1024) : Dat.igt (Dat.ofN (Dat.len l)) 1024 = true := igt_len (n := 1024) h
theorem igt1024n {l : List Int} (h : ¬ l.length > 1024) : Dat.igt (Dat.ofN (Dat.len l)) 1024 = false := igt_len0 (n := 1024) h
theorem ilt_len {l : List Int} {i : Nat} (h : i < l.length) : Dat.ilt (i : Int) (Dat.ofN (Dat.len l)) = true := by simp [Dat.ilt, h]
theorem ilt_len0 {l : List Int} {i : Nat} (h : ¬ i < l.length) : Dat.ilt (i : Int) (Dat.ofN (Dat.len l)) = false := by simp [Dat.ilt]; omega
theorem Ix_len {l : List Int} {i : Nat} (h : i < l.length) : Dat.Ix (i : Int) (Dat.len l) := (Dat.Ix_nat _ _).2 h
theorem get_i {l : List Int} {i : Nat} (h : i < l.length) : Dat.get l (Dat.toN (i : Int)) 0 = l[i] := by rw [Dat.toN_nat, Dat.get_lt _ _ h]
theorem ine_len {l k : List Int} (h : ¬ l.length = k.length) : Dat.ine (Dat.ofN (Dat.len l)) (Dat.ofN (Dat.len k)) = true := by simp [Dat.ine]; omega
theorem ine_len0 {l k : List Int} (h : l.length = k.length) : Dat.ine (Dat.ofN (Dat.len l)) (Dat.ofN (Dat.len k)) = false := by simp [Dat.ine, h]
theorem toN_len (l : List Int) : Dat.toN (Dat.ofN (Dat.len l)) = l.length := rfl

theorem order_ordered_spec (p c : List Int) : order_ordered (p, c) = some (ordS p c) := by
  unfold order_ordered ordS
  simp only
  by_cases hn : p.length > 1024
  · rw [igt1024 hn, cond_true, if_pos hn]
  · rw [igt1024n hn, cond_false, if_neg hn, if_pos (show Dat.MkOk (Dat.ofN (Dat.len p)) (Dat.ofN (Dat.len p)) 1 from Dat.MkOk_iff.2 ⟨by show (0 : Int) ≤ p.length; omega, Int.le_refl _, by show (p.length : Int) < _; omega, by show (1 : Int) * (p.length : Int) ≤ _; omega⟩), toN_len]
    refine loop_inv (fun (s : Int × List Bool) => ∃ i : Nat, s.1 = (i : Int) ∧ i ≤ p.length ∧ s.2.length = p.length ∧ (∀ j, j < p.length → s.2[j]? = some (decide ((j : Int) ∈ p.take i))) ∧ (p.take i).Nodup ∧ ∀ x ∈ p.take i, 0 ≤ x ∧ x < p.length) (fun s => p.length - s.1.toNat) ?_ ⟨0, rfl, by omega, by simp [Dat.rep], fun j hj => by simp [Dat.rep, hj], by simp, by simp⟩ (by show p.length - (0 : Int).toNat < _; omega)
    rintro ⟨si, sl⟩ k ⟨i, rfl, hle, h1, h2, h3, h4⟩ hk
    simp only at h1 h2
    by_cases hi : i < p.length
    · have hmem : p[i] ∈ p := List.getElem_mem hi
      have no2 : ¬ isP p = true → (if isP p = true ∧ c.length = p.length then (0 : Int) else 2) = 2 := fun h => if_neg (fun hh => h hh.1)
      simp only
      rw [ilt_len hi, cond_true, if_pos (Ix_len hi), get_i hi, Dat.bnd_eq]
      by_cases hx0 : p[i] < 0
      · have e : Dat.ilt p[i] 0 = true := by simp [Dat.ilt, hx0]
        rw [e, cond_true, no2 fun h => by have := (isP_iff.1 h).2 _ hmem; omega]
      · have e : Dat.ilt p[i] 0 = false := by simp [Dat.ilt, hx0]
        rw [e, cond_false]
        by_cases hx1 : p[i] ≥ p.length
        · have e2 : Dat.pickB false true (Dat.ige p[i] (Dat.ofN (Dat.len p))) = true := by simp [Dat.ige, hx1]
          rw [e2, cond_true, no2 fun h => by have := (isP_iff.1 h).2 _ hmem; omega]
        · have e2 : Dat.pickB false true (Dat.ige p[i] (Dat.ofN (Dat.len p))) = false := by simp [Dat.ige]; omega
          obtain ⟨X, hX⟩ := Int.eq_ofNat_of_zero_le (show 0 ≤ p[i] by omega)
          have hXl : X < p.length := by omega
          have c1 : Dat.In (X : Int) p.length := ⟨by omega, by omega⟩
          have c2 : Dat.Lt (Dat.addN 0 (Dat.toN (X : Int))) (Dat.len sl) := by show 0 + (X : Int).toNat < sl.length; omega
          have hg : Dat.get sl (Dat.addN 0 (Dat.toN (X : Int))) false = decide ((X : Int) ∈ p.take i) := by
            show sl.getD (0 + (X : Int).toNat) false = _
            rw [Nat.zero_add, Int.toNat_natCast]
            simp only [List.getD, h2 X hXl, Option.getD_some]
          have htk : p.take (i + 1) = p.take i ++ [(X : Int)] := by rw [List.take_succ_eq_append_getElem hi, hX]
          rw [e2, cond_false, hX, if_pos c1, if_pos c2, hg, Dat.bnd_eq]
          by_cases hd : (X : Int) ∈ p.take i
          · rw [decide_eq_true hd]
            show some 2 = _
            rw [no2 fun h => ?_]
            have hnd := (isP_iff.1 h).1
            have : (p.take (i + 1)).Nodup := hnd.sublist (List.take_sublist _ _)
            rw [htk, List.nodup_append] at this
            exact this.2.2 _ hd _ (by simp) rfl
          · have p0 : Dat.pickB false true false = false := rfl
            rw [decide_eq_false hd, p0, cond_false, if_pos c1, if_pos c2, Dat.bnd_eq, Dat.succ_i64 (by omega), Dat.bnd_eq]
            have ea : Dat.addN 0 (Dat.toN (X : Int)) = X := by show 0 + (X : Int).toNat = X; omega
            rw [ea]
            refine hk _ ⟨i + 1, rfl, by omega, by simp [h1], fun j hj => ?_, ?_, fun x hx => ?_⟩ (by show p.length - ((i + 1 : Nat) : Int).toNat < p.length - (i : Int).toNat; omega)
            · show (sl.set X true)[j]? = _
              by_cases hjX : j = X
              · subst hjX
                rw [List.getElem?_set_self (by omega), htk]; simp
              · rw [List.getElem?_set_ne (Ne.symm hjX), h2 j hj, htk]
                congr 1
                rw [decide_eq_decide]; simp; omega
            · rw [htk, List.nodup_append]
              exact ⟨h3, by simp, fun a ha b hb e => by simp at hb; subst hb; subst e; exact hd ha⟩
            · rw [htk] at hx
              rcases List.mem_append.1 hx with hx | hx
              · exact h4 x hx
              · simp at hx; subst hx; omega
    · have ei : i = p.length := by omega
      subst ei
      rw [List.take_length] at h3 h4
      have hP : isP p = true := isP_iff.2 ⟨h3, h4⟩
      simp only
      rw [ilt_len0 hi, cond_false]
      by_cases hc : c.length = p.length
      · rw [ine_len0 hc, cond_false, if_pos ⟨hP, hc⟩]
      · rw [ine_len hc, cond_true, if_neg fun h => hc h.2]

theorem ref21_among_spec (l : List Int) (n : Int) (hl : l.length < 1000000) : ref21_among (l, n) = some (decide (n ∈ l)) := by
  unfold ref21_among
  refine loop_inv (fun (s : Int) => ∃ i : Nat, s = (i : Int) ∧ i ≤ l.length ∧ n ∉ l.take i) (fun s => l.length - s.toNat) ?_ ⟨0, rfl, by omega, by simp⟩ (by show l.length - (0 : Int).toNat < _; omega)
  rintro s k ⟨i, rfl, hle, hn⟩ hk
  by_cases hi : i < l.length
  · simp only
    rw [ilt_len hi, cond_true, if_pos (Ix_len hi), get_i hi, Dat.bnd_eq]
    by_cases he : l[i] = n
    · have e : Dat.ieq l[i] n = true := by simp [Dat.ieq, he]
      rw [e, cond_true, decide_eq_true (he ▸ List.getElem_mem hi)]
    · have e : Dat.ieq l[i] n = false := by simp [Dat.ieq, he]
      rw [e, cond_false, Dat.succ_i64 (by omega), Dat.bnd_eq]
      refine hk _ ⟨i + 1, rfl, by omega, ?_⟩ (by show l.length - ((i + 1 : Nat) : Int).toNat < l.length - (i : Int).toNat; omega)
      rw [List.take_succ_eq_append_getElem hi]
      simp only [List.mem_append, List.mem_singleton, not_or]
      exact ⟨hn, Ne.symm he⟩
  · have ei : i = l.length := by omega
    subst ei
    rw [List.take_length] at hn
    simp only
    rw [ilt_len0 hi, cond_false, decide_eq_false hn]

theorem ord_ok {p c : List Int} (h : ordS p c = 0) : p.length ≤ 1024 ∧ c.length = p.length ∧ ∀ x ∈ p, 0 ≤ x ∧ x < p.length := by
  unfold ordS at h
  split at h
  · omega
  · split at h
    · rename_i h1 h2
      exact ⟨by omega, h2.2, (isP_iff.1 h2.1).2⟩
    · omega

def appL (p c : List Int) : List Int := p.map fun x => c.getD x.toNat 0
def applyS (p c : List Int) : List Int × Int := if ordS p c = 0 then (appL p c, 0) else ([], ordS p c)
theorem ine0 {x : Int} (h : ¬ x = 0) : Dat.ine x 0 = true := by simp [Dat.ine, h]
theorem mk_ok {l : List Int} (h : l.length ≤ 1024) : Dat.MkOk (Dat.ofN (Dat.len l)) (Dat.ofN (Dat.len l)) 4 :=
  Dat.MkOk_iff.2 ⟨by show (0 : Int) ≤ l.length; omega, Int.le_refl _, by show (l.length : Int) < _; omega, by show (4 : Int) * (l.length : Int) ≤ _; omega⟩
theorem appL_len (p c : List Int) : (appL p c).length = p.length := by simp [appL]

theorem order_Apply_spec (p c : List Int) : order_Apply (p, c) = some (applyS p c) := by
  unfold order_Apply applyS
  simp only
  rw [order_ordered_spec, Dat.bind_some]
  by_cases ho : ordS p c = 0
  · obtain ⟨hp, hc, hin⟩ := ord_ok ho
    have z : Dat.ine 0 0 = false := rfl
    rw [ho, z, cond_false, if_pos rfl, if_pos (mk_ok (l := c) (by omega)), toN_len]
    refine loop_inv (fun (s : Int × List Int) => ∃ i : Nat, s.1 = (i : Int) ∧ i ≤ p.length ∧ s.2 = (List.replicate c.length (0 : Int)).take 0 ++ ((appL p c).take i ++ (List.replicate c.length (0 : Int)).drop (0 + i))) (fun s => p.length - s.1.toNat) ?_ ⟨0, rfl, by omega, by simp [Dat.rep]⟩ (by show p.length - (0 : Int).toNat < _; omega)
    rintro ⟨si, sl⟩ k ⟨i, rfl, hle, hs⟩ hk
    simp only at hs
    subst hs
    have hlen : ((List.replicate c.length (0 : Int)).take 0 ++ ((appL p c).take i ++ (List.replicate c.length (0 : Int)).drop (0 + i))).length = c.length := by
      simp only [List.length_append, List.length_take, List.length_drop, List.length_replicate, appL_len]; omega
    by_cases hi : i < p.length
    · have hx := hin p[i] (List.getElem_mem hi)
      obtain ⟨X, hX⟩ := Int.eq_ofNat_of_zero_le hx.1
      have hXl : X < c.length := by omega
      have c1 : Dat.In (i : Int) c.length := ⟨by omega, by omega⟩
      have c2 : Dat.Lt (Dat.addN 0 (Dat.toN (i : Int))) (Dat.len ((List.replicate c.length (0 : Int)).take 0 ++ ((appL p c).take i ++ (List.replicate c.length (0 : Int)).drop (0 + i)))) := by
        show 0 + (i : Int).toNat < List.length _; rw [hlen]; omega
      have hv : c[X] = (appL p c)[i]'(by rw [appL_len]; exact hi) := by
        simp only [appL, List.getElem_map, hX, Int.toNat_natCast, List.getD, List.getElem?_eq_getElem hXl, Option.getD_some]
      have es : Dat.set ((List.replicate c.length (0 : Int)).take 0 ++ ((appL p c).take i ++ (List.replicate c.length (0 : Int)).drop (0 + i))) (Dat.addN 0 (Dat.toN (i : Int))) c[X] = (List.replicate c.length (0 : Int)).take 0 ++ ((appL p c).take (i + 1) ++ (List.replicate c.length (0 : Int)).drop (0 + (i + 1))) := by
        rw [hv, Dat.toN_nat]
        exact set_in (by rw [appL_len]; exact hi) (by rw [appL_len]; simp; omega)
      simp only
      rw [ilt_len hi, cond_true, if_pos (Ix_len hi), get_i hi, Dat.bnd_eq, hX, if_pos (Ix_len hXl), get_i hXl, Dat.bnd_eq, if_pos c1, if_pos c2, es, Dat.bnd_eq, Dat.succ_i64 (by omega), Dat.bnd_eq]
      exact hk _ ⟨i + 1, rfl, by omega, rfl⟩ (by show p.length - ((i + 1 : Nat) : Int).toNat < p.length - (i : Int).toNat; omega)
    · have ei : i = p.length := by omega
      subst ei
      have ef : (List.replicate c.length (0 : Int)).take 0 ++ ((appL p c).take p.length ++ (List.replicate c.length (0 : Int)).drop (0 + p.length)) = appL p c := by
        rw [List.take_of_length_le (l := appL p c) (by rw [appL_len]; exact Nat.le_refl _), List.drop_of_length_le (by simp; omega)]
        simp
      have c6 : Dat.Le (Dat.addN 0 c.length) (Dat.len (appL p c)) := by show 0 + c.length ≤ (appL p c).length; rw [appL_len]; omega
      simp only
      rw [ilt_len0 hi, cond_false, ef, if_pos c6, seg_all _ (by rw [appL_len]; omega)]
  · rw [ine0 ho, cond_true, if_neg ho]

def undoN (p c : List Int) : Nat → List Int
  | 0 => List.replicate p.length 0
  | i + 1 => (undoN p c i).set (p.getD i 0).toNat (c.getD i 0)
theorem undoN_len (p c : List Int) : ∀ i, (undoN p c i).length = p.length
  | 0 => by simp [undoN]
  | i + 1 => by simp [undoN, undoN_len p c i]
def undoS (p c : List Int) : List Int × Int := if ordS p c = 0 then (undoN p c p.length, 0) else ([], ordS p c)

theorem undo_loop (p c : List Int) (hp : p.length ≤ 1024) (hc : c.length = p.length) (hin : ∀ x ∈ p, 0 ≤ x ∧ x < p.length) :
    Dat.loop (fun (s4 : (Int) × (List (Int))) (k5 : Int × List Int → Option (List Int × Int)) =>
 (bif (Dat.ilt s4.1 (Dat.ofN (Dat.len p))) then if (Dat.Ix s4.1 (Dat.len p)) then Dat.bnd (Dat.get p (Dat.toN s4.1) 0) fun (x8 : Int) =>
 if (Dat.Ix s4.1 (Dat.len c)) then Dat.bnd (Dat.get c (Dat.toN s4.1) 0) fun (x11 : Int) =>
 if (Dat.In x8 p.length) then if (Dat.Lt (Dat.addN 0 (Dat.toN x8)) (Dat.len s4.2)) then Dat.bnd (Dat.set s4.2 (Dat.addN 0 (Dat.toN x8)) x11) fun (x16 : List (Int)) =>
 Dat.bnd (Dat.wrap .i64 (Dat.add s4.1 1)) fun (x17 : Int) =>
 k5 (x17, x16)
 else none
 else none
 else none
 else none
 else if (Dat.Le (Dat.addN 0 p.length) (Dat.len s4.2)) then some ((Dat.seg s4.2 0 p.length), 0)
 else none)) (0, (Dat.rep p.length 0)) = some (undoN p c p.length, 0) := by
  refine loop_inv (fun (s : Int × List Int) => ∃ i : Nat, s.1 = (i : Int) ∧ i ≤ p.length ∧ s.2 = undoN p c i) (fun s => p.length - s.1.toNat) ?_ ⟨0, rfl, by omega, rfl⟩ (by show p.length - (0 : Int).toNat < _; omega)
  rintro ⟨si, sl⟩ k ⟨i, rfl, hle, hs⟩ hk
  simp only at hs
  subst hs
  have hlen := undoN_len p c i
  by_cases hi : i < p.length
  · have hx := hin p[i] (List.getElem_mem hi)
    obtain ⟨X, hX⟩ := Int.eq_ofNat_of_zero_le hx.1
    have hic : i < c.length := by omega
    have c1 : Dat.In (X : Int) p.length := ⟨by omega, by omega⟩
    have c2 : Dat.Lt (Dat.addN 0 (Dat.toN (X : Int))) (Dat.len (undoN p c i)) := by show 0 + (X : Int).toNat < (undoN p c i).length; omega
    have es : Dat.set (undoN p c i) (Dat.addN 0 (Dat.toN (X : Int))) c[i] = undoN p c (i + 1) := by
      have e1 : p.getD i 0 = p[i] := by simp [List.getD, hi]
      have e2 : c.getD i 0 = c[i] := by simp [List.getD, hic]
      simp only [undoN, e1, e2, hX]
      show List.set _ (0 + (X : Int).toNat) _ = _
      rw [Nat.zero_add]
    simp only
    rw [ilt_len hi, cond_true, if_pos (Ix_len hi), get_i hi, Dat.bnd_eq, if_pos (Ix_len hic), get_i hic, Dat.bnd_eq, hX, if_pos c1, if_pos c2, es, Dat.bnd_eq, Dat.succ_i64 (by omega), Dat.bnd_eq]
    exact hk _ ⟨i + 1, rfl, by omega, rfl⟩ (by show p.length - ((i + 1 : Nat) : Int).toNat < p.length - (i : Int).toNat; omega)
  · have ei : i = p.length := by omega
    subst ei
    have c6 : Dat.Le (Dat.addN 0 p.length) (Dat.len (undoN p c p.length)) := by show 0 + p.length ≤ (undoN p c p.length).length; omega
    simp only
    rw [ilt_len0 hi, cond_false, if_pos c6, seg_all _ (by omega)]

theorem order_Undo_spec (p c : List Int) : order_Undo (p, c) = some (undoS p c) := by
  unfold order_Undo undoS
  simp only
  rw [order_ordered_spec, Dat.bind_some]
  by_cases ho : ordS p c = 0
  · obtain ⟨hp, hc, hin⟩ := ord_ok ho
    have z : Dat.ine 0 0 = false := rfl
    rw [ho, z, cond_false, if_pos rfl, if_pos (mk_ok (l := c) (by omega)), toN_len, hc]
    exact undo_loop p c hp hc hin
  · rw [ine0 ho, cond_true, if_neg ho]
theorem ref21_SameCells_self (a : List Int) (h : a.length < 9223372036854775807) : ref21_SameCells (a, a) = some true := by
  unfold ref21_SameCells
  simp only [Dat.ine, bne_self_eq_false, cond_false]
  refine loop_inv (fun (s : Int) => ∃ i : Nat, s = i ∧ i ≤ a.length) (fun s => a.length - s.toNat) ?_ ⟨0, rfl, Nat.zero_le _⟩ (by simp; omega)
  rintro d k ⟨i, rfl, hi⟩ hk
  simp only [Dat.ofN_eq, Dat.len_eq, Dat.ilt_nat]
  by_cases h1 : i < a.length
  · simp only [h1, decide_true, cond_true, if_pos ((Dat.Ix_nat i a.length).2 h1), Dat.bnd_eq, Dat.ine, bne_self_eq_false, cond_false]
    rw [Dat.succ_i64 (by omega)]
    exact hk _ ⟨i + 1, rfl, h1⟩ (by simp; omega)
  · simp [h1]
end Go.Proofs.Ytfbabemgneaekaa
