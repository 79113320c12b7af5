/- How many buckets are written, as program and document count them. -/
import Derived.Test.YtjbgbpcjgkjdcaaConftells
namespace Go.Proofs.Ytjbgbpcjgkjdcaa
open Go.Eng
set_option linter.unusedVariables false
set_option linter.unusedSimpArgs false

def inR (m : Int) (l : List Int) : Prop := ∀ x ∈ l, 0 ≤ x ∧ x ≤ m
theorem sum_inR {m : Int} : ∀ {l : List Int}, inR m l → 0 ≤ l.sum ∧ l.sum ≤ m * l.length
  | [], _ => by simp
  | x :: l, h => by
    have h1 := h x (by simp)
    have h2 := sum_inR (l := l) fun y hy => h y (by simp [hy])
    simp only [List.sum_cons, List.length_cons]
    have : m * ((l.length + 1 : Nat) : Int) = m * l.length + m := by rw [Int.natCast_add, Int.mul_add]; simp
    omega

theorem conf_sum_spec {l : List Int} (h : inR 200 l) (hl : l.length ≤ 64) : conf_sum l = some l.sum := by
  unfold conf_sum
  refine loop_inv (fun (s : Int × Int) => ∃ i : Nat, s.2 = (i : Int) ∧ i ≤ l.length ∧ s.1 + (l.drop i).sum = l.sum ∧ 0 ≤ s.1) (fun s => l.length - s.2.toNat) ?_ ⟨0, rfl, by omega, by simp, by simp⟩ (by show l.length - (0 : Int).toNat < _; omega)
  rintro ⟨st, si⟩ k ⟨i, rfl, hi, hT, h0⟩ hk
  replace hT : st + (l.drop i).sum = l.sum := hT
  replace h0 : 0 ≤ st := h0
  have hs := sum_inR h
  simp only [Dat.ofN_eq, Dat.len_eq, Dat.ilt_nat]
  by_cases hlt : i < l.length
  · have hx := h l[i] (List.getElem_mem hlt)
    have hd := sum_inR (m := 200) (l := l.drop (i + 1)) fun y hy => h y (List.mem_of_mem_drop hy)
    rw [List.drop_eq_getElem_cons hlt, List.sum_cons] at hT
    have hb : (200 : Int) * l.length ≤ 12800 := by omega
    simp only [hlt, decide_true, cond_true, if_pos ((Dat.Ix_nat i l.length).2 hlt), Dat.bnd_eq, Dat.toN_nat, Dat.get_lt l 0 hlt, Dat.add_eq]
    have w : Dat.wrap .i64 (st + l[i]) = st + l[i] := Dat.wrap_i64 (by omega) (by omega)
    have w2 : Dat.wrap .i64 ((i : Int) + 1) = ((i + 1 : Nat) : Int) := Dat.succ_i64 (n := i) (by omega)
    rw [w, w2]
    exact hk (_, _) ⟨i + 1, rfl, hlt, by show st + l[i] + (l.drop (i + 1)).sum = l.sum; omega, by show 0 ≤ st + l[i]; omega⟩ (by show l.length - ((i + 1 : Nat) : Int).toNat < l.length - (i : Int).toNat; omega)
  · rw [List.drop_of_length_le (by omega), List.sum_nil] at hT
    simp only [hlt, decide_false, cond_false]
    congr 1; omega

def bucks (l : LvlT) : Int := 2 * 2 ^ l.2.2.1.toNat - 1
def rowsN (l : LvlT) : Int := l.2.2.1 + 1
theorem highN_may (n : Int) : may (highN n) = true := by
  rw [may_iff]; unfold highN; (repeat' split) <;> omega
theorem high_pow {h : Int} (hm : may h = true) : (1 : Int) ≤ 2 ^ h.toNat ∧ (2 : Int) ^ h.toNat ≤ 64 := by
  rcases may_cases hm with rfl | rfl | rfl | rfl | rfl | rfl <;> decide
theorem buckOk {h : Int} (hm : may h = true) : geo_Buckets h = some (2 * 2 ^ h.toNat - 1, 0) := by
  unfold geo_Buckets
  rw [geo_Check_spec, hm, Dat.bind_some]
  rcases may_cases hm with rfl | rfl | rfl | rfl | rfl | rfl <;> rfl

theorem lvl_in (c : CfgT) (p : Int × Int) : (0 ≤ bucks (lvlS c p) ∧ bucks (lvlS c p) ≤ 200) ∧ (0 ≤ rowsN (lvlS c p) ∧ rowsN (lvlS c p) ≤ 200) := by
  have hm := highN_may p.1
  have h2 := may_iff.1 hm
  obtain ⟨a, b⟩ := high_pow hm
  unfold bucks rowsN
  show (0 ≤ 2 * 2 ^ (highN p.1).toNat - 1 ∧ 2 * 2 ^ (highN p.1).toNat - 1 ≤ 200) ∧ (0 ≤ highN p.1 + 1 ∧ highN p.1 + 1 ≤ 200)
  generalize (2 : Int) ^ (highN p.1).toNat = q at *
  omega
theorem all_in (c : CfgT) : inR 200 ((allS c).map bucks) ∧ inR 200 ((allS c).map rowsN) := by
  constructor
  · intro x hx
    obtain ⟨l, hl, rfl⟩ := List.mem_map.1 hx
    obtain ⟨p, _, rfl⟩ := List.mem_map.1 hl
    exact (lvl_in c p).1
  · intro x hx
    obtain ⟨l, hl, rfl⟩ := List.mem_map.1 hx
    obtain ⟨p, _, rfl⟩ := List.mem_map.1 hl
    exact (lvl_in c p).2

noncomputable def sealS (c : CfgT) : Int × (Int × Int) := if mayB c then (((allS c).map bucks).sum, 2 * ((allS c).map rowsN).sum, 0) else (0, 0, 8)

theorem conf_Seals_spec (c : CfgT) : conf_Seals c = some (sealS c) := by
  unfold conf_Seals sealS
  show Dat.bind (conf_Check c) _ = _
  rw [conf_Check_spec, Dat.bind_some]
  cases hm : mayB c with
  | false => rfl
  | true =>
    obtain ⟨N, hL4⟩ := mayB_nums hm
    have p2 := N.p2
    have s1 := N.s1
    have e0 : Dat.ine (if true = true then 0 else 8) 0 = false := rfl
    rw [e0, cond_false]
    show Dat.bind (conf_level (c, c.1, c.2.1)) _ = _
    have hb := all_in c
    have hal := allS_len c
    rw [conf_level_spec N p2 (by omega) N.s2, Dat.bind_some, if_pos (show Dat.EqN 0 (Dat.len ([] : List Int)) from rfl), if_pos (show Dat.EqN 0 (Dat.len ([] : List Int)) from rfl), if_pos rfl]
    refine loop_inv (fun (s : (Int × (Int × (Int × Int))) × (List Int × List Int)) => ∃ (n z : Int), atL c s.1 n z ∧ s.2.2 ++ ((LV c n z).map (lvlS c)).map bucks = (allS c).map bucks ∧ s.2.1 ++ ((LV c n z).map (lvlS c)).map rowsN = (allS c).map rowsN) (fun s => s.1.1.toNat) ?_ ⟨c.1, c.2.1, ⟨N.p1, p2, by omega, N.s2, rfl⟩, rfl, rfl⟩ (by show c.1.toNat < _; omega)
    rintro ⟨sl, sr, sb⟩ k ⟨n, z, ⟨n1, n2, z1, z2, hl⟩, hB, hR⟩ hk
    replace hl : sl = _ := hl
    subst hl
    replace hB : sb ++ ((LV c n z).map (lvlS c)).map bucks = (allS c).map bucks := hB
    replace hR : sr ++ ((LV c n z).map (lvlS c)).map rowsN = (allS c).map rowsN := hR
    have hbl : sb.length ≤ 64 := by
      have h1 := congrArg List.length hB
      have h2 : ((allS c).map bucks).length = (allS c).length := by simp
      rw [List.length_append, h2] at h1; omega
    have hrl : sr.length ≤ 64 := by
      have h1 := congrArg List.length hR
      have h2 : ((allS c).map rowsN).length = (allS c).length := by simp
      rw [List.length_append, h2] at h1; omega
    have hLV := LV_eq N n1 n2 (s := z)
    have hmay := highN_may n
    have hmm := may_iff.1 hmay
    have w1 : Dat.wrap .i64 (Dat.add (highN n) 1) = highN n + 1 := by rw [Dat.wrap_i64] <;> simp only [Dat.add_eq] <;> omega
    show Dat.bind (geo_Buckets (highN n)) _ = _
    rw [buckOk hmay, Dat.bind_some]
    show (if Dat.Le (Dat.addN 0 1) (Dat.len (bucks (lvlS c (n, z)) :: ([] : List Int))) then (if Dat.Big (Dat.len sb) (Dat.len (Dat.seg (bucks (lvlS c (n, z)) :: ([] : List Int)) 0 1)) 8 then none else if Dat.EqN (Dat.len sb) (Dat.len sb) then Dat.bnd (Dat.app sb (Dat.seg (bucks (lvlS c (n, z)) :: ([] : List Int)) 0 1)) fun x16 => Dat.bnd (Dat.wrap .i64 (Dat.add (highN n) 1)) _ else none) else none) = _
    rw [if_pos (le1 _), if_neg (small (by omega) _ (by omega)), if_pos (Dat.EqN_self _), seg1, Dat.app_eq, Dat.bnd_eq, w1, Dat.bnd_eq]
    show (if Dat.Le (Dat.addN 0 1) (Dat.len (rowsN (lvlS c (n, z)) :: ([] : List Int))) then (if Dat.Big (Dat.len sr) (Dat.len (Dat.seg (rowsN (lvlS c (n, z)) :: ([] : List Int)) 0 1)) 8 then none else if Dat.EqN (Dat.len sr) (Dat.len sr) then Dat.bnd (Dat.app sr (Dat.seg (rowsN (lvlS c (n, z)) :: ([] : List Int)) 0 1)) fun x24 => Dat.bind (some (decide (n ≤ c.2.2.2.2.2.2.2.2.1))) _ else none) else none) = _
    rw [if_pos (le1 _), if_neg (small (by omega) _ (by omega)), if_pos (Dat.EqN_self _), seg1, Dat.app_eq, Dat.bnd_eq, Dat.bind_some]
    by_cases ht : n ≤ c.2.2.2.2.2.2.2.2.1
    · have e2 : Dat.pickB true (Dat.bnot (decide (n ≤ c.2.2.2.2.2.2.2.2.1))) false = false := by simp [ht]
      rw [hLV, if_pos ht] at hB hR
      have hB' : sb ++ [bucks (lvlS c (n, z))] = (allS c).map bucks := hB
      have hR' : sr ++ [rowsN (lvlS c (n, z))] = (allS c).map rowsN := hR
      have hr2 := sum_inR hb.2
      rw [List.length_map] at hr2
      have hbig : (200 : Int) * (allS c).length ≤ 12800 := by omega
      rw [e2, cond_false, hB', hR', conf_sum_spec hb.1 (by rw [List.length_map]; exact hal), Dat.bind_some, conf_sum_spec hb.2 (by rw [List.length_map]; exact hal), Dat.bind_some]
      have w2 : Dat.wrap .i64 (Dat.mul 2 ((allS c).map rowsN).sum) = 2 * ((allS c).map rowsN).sum := by rw [Dat.wrap_i64] <;> simp only [Dat.mul_eq] <;> omega
      rw [w2, Dat.bnd_eq]
    · obtain ⟨g1, g2, g3, g4, g5, g6, g7⟩ := step_i64 N n1 n2 ht
      have e2 : Dat.pickB true (Dat.bnot (decide (n ≤ c.2.2.2.2.2.2.2.2.1))) false = true := by simp [ht]
      rw [hLV, if_neg ht] at hB hR
      rw [e2, cond_true]
      show Dat.bnd (Dat.wrap .i64 (Dat.add n c.2.2.1)) _ = _
      rw [g1, Dat.bnd_eq, g2, Dat.bnd_eq, if_neg g3, g4, Dat.bnd_eq, g5, Dat.bnd_eq]
      show Dat.bind (conf_level (c, nxt c.2.2.1 n, 4 * c.2.2.1)) _ = _
      rw [conf_level_spec N (by omega) (by have := N.f1; omega) (by have := N.f2; omega), Dat.bind_some, if_pos (Dat.EqN_self _), if_pos (Dat.EqN_self _)]
      refine hk (_, (_, _)) ⟨nxt c.2.2.1 n, 4 * c.2.2.1, ⟨g6, by omega, by have := N.f1; omega, by have := N.f2; omega, rfl⟩, ?_, ?_⟩ (by show (nxt c.2.2.1 n).toNat < n.toNat; omega)
      · rw [← hB]; simp
      · rw [← hR]; simp

theorem ref08_Counts_spec {c : CfgT} (N : Nums c) : ref08_Counts c = some (((allS c).map bucks).sum, 2 * ((allS c).map rowsN).sum) := by
  unfold ref08_Counts
  show Dat.bind (ref08_All c) _ = _
  have hal := allS_len c
  have hb := all_in c
  have hB := sum_inR hb.1
  have hR := sum_inR hb.2
  rw [List.length_map] at hB hR
  have hmays : ∀ l ∈ allS c, may l.2.2.1 = true := by
    intro l hl
    obtain ⟨p, _, rfl⟩ := List.mem_map.1 hl
    exact highN_may p.1
  rw [ref08_All_spec N, Dat.bind_some]
  generalize allS c = L at *
  have hbig : (200 : Int) * L.length ≤ 12800 := by omega
  refine loop_inv (fun (s : Int × (Int × Int)) => ∃ i : Nat, s.2.2 = (i : Int) ∧ i ≤ L.length ∧ (0 ≤ s.1 ∧ s.1 + ((L.drop i).map bucks).sum = (L.map bucks).sum) ∧ (0 ≤ s.2.1 ∧ s.2.1 + 2 * ((L.drop i).map rowsN).sum = 2 * (L.map rowsN).sum)) (fun s => L.length - s.2.2.toNat) ?_ ⟨0, rfl, by omega, ⟨by simp, by simp⟩, ⟨by simp, by simp⟩⟩ (by show L.length - (0 : Int).toNat < _; omega)
  rintro ⟨sf, st, si⟩ k ⟨i, rfl, hi, ⟨f0, fT⟩, ⟨t0, tT⟩⟩ hk
  replace fT : sf + ((L.drop i).map bucks).sum = (L.map bucks).sum := fT
  replace tT : st + 2 * ((L.drop i).map rowsN).sum = 2 * (L.map rowsN).sum := tT
  replace f0 : 0 ≤ sf := f0
  replace t0 : 0 ≤ st := t0
  show (bif Dat.ilt (i : Int) (Dat.ofN (Dat.len L)) then _ else _) = _
  by_cases hlt : i < L.length
  · have e1 : Dat.ilt (i : Int) (Dat.ofN (Dat.len L)) = true := by simp [hlt]
    have c1 : Dat.Ix (i : Int) (Dat.len L) := (Dat.Ix_nat _ _).2 hlt
    have hd1 := sum_inR (m := 200) (l := (L.drop (i + 1)).map bucks) fun y hy => by
      obtain ⟨l, hl, rfl⟩ := List.mem_map.1 hy
      exact hb.1 _ (List.mem_map.2 ⟨l, List.mem_of_mem_drop hl, rfl⟩)
    have hd2 := sum_inR (m := 200) (l := (L.drop (i + 1)).map rowsN) fun y hy => by
      obtain ⟨l, hl, rfl⟩ := List.mem_map.1 hy
      exact hb.2 _ (List.mem_map.2 ⟨l, List.mem_of_mem_drop hl, rfl⟩)
    rw [List.drop_eq_getElem_cons hlt, List.map_cons, List.sum_cons] at fT tT
    have hx1 := hb.1 _ (List.mem_map.2 ⟨L[i], List.getElem_mem hlt, rfl⟩)
    have hx2 := hb.2 _ (List.mem_map.2 ⟨L[i], List.getElem_mem hlt, rfl⟩)
    have hmay := hmays L[i] (List.getElem_mem hlt)
    have hmm := may_iff.1 hmay
    obtain ⟨q1, q2⟩ := high_pow hmay
    rw [e1, cond_true]
    show (if Dat.Ix (i : Int) (Dat.len L) then _ else none) = _
    rw [if_pos c1]
    show Dat.bnd (Dat.get L (Dat.toN (i : Int)) _) _ = _
    rw [get_lvl hlt, Dat.bnd_eq]
    generalize L[i] = l at *
    rw [ref07_Many_spec l.2.2.1 (by omega) (by omega), Dat.bind_some]
    have eb : bucks l = 2 * 2 ^ l.2.2.1.toNat - 1 := rfl
    have er : rowsN l = l.2.2.1 + 1 := rfl
    have w1 : Dat.wrap .i64 (Dat.mul 2 (2 ^ l.2.2.1.toNat)) = 2 * 2 ^ l.2.2.1.toNat := by
      generalize (2 : Int) ^ l.2.2.1.toNat = q at *
      rw [Dat.wrap_i64] <;> simp only [Dat.mul_eq] <;> omega
    have w2 : Dat.wrap .i64 (Dat.add sf (2 * 2 ^ l.2.2.1.toNat)) = sf + 2 * 2 ^ l.2.2.1.toNat := by
      clear w1
      generalize (2 : Int) ^ l.2.2.1.toNat = q at *
      rw [Dat.wrap_i64] <;> simp only [Dat.add_eq] <;> omega
    have w3 : Dat.wrap .i64 (Dat.sub (sf + 2 * 2 ^ l.2.2.1.toNat) 1) = sf + bucks l := by
      clear w1 w2
      generalize (2 : Int) ^ l.2.2.1.toNat = q at *
      rw [Dat.wrap_i64] <;> simp only [Dat.sub_eq] <;> omega
    have w4 : Dat.wrap .i64 (Dat.add l.2.2.1 1) = rowsN l := by rw [Dat.wrap_i64] <;> simp only [Dat.add_eq] <;> omega
    have w5 : Dat.wrap .i64 (Dat.mul 2 (rowsN l)) = 2 * rowsN l := by rw [Dat.wrap_i64] <;> simp only [Dat.mul_eq] <;> omega
    have w6 : Dat.wrap .i64 (Dat.add st (2 * rowsN l)) = st + 2 * rowsN l := by rw [Dat.wrap_i64] <;> simp only [Dat.add_eq] <;> omega
    rw [w1, Dat.bnd_eq]
    show Dat.bnd (Dat.wrap .i64 (Dat.add sf (2 * 2 ^ l.2.2.1.toNat))) _ = _
    rw [w2, Dat.bnd_eq, w3, Dat.bnd_eq]
    show (if Dat.Ix (i : Int) (Dat.len L) then _ else none) = _
    rw [if_pos c1, Dat.bnd_eq, w4, Dat.bnd_eq, w5, Dat.bnd_eq]
    show Dat.bnd (Dat.wrap .i64 (Dat.add st (2 * rowsN l))) _ = _
    rw [w6, Dat.bnd_eq]
    show Dat.bnd (Dat.wrap .i64 (Dat.add (i : Int) 1)) _ = _
    rw [Dat.succ_i64 (by omega), Dat.bnd_eq]
    exact hk (_, (_, _)) ⟨i + 1, rfl, hlt, ⟨by show 0 ≤ sf + bucks l; omega, by show sf + bucks l + _ = _; omega⟩, ⟨by show 0 ≤ st + 2 * rowsN l; omega, by show st + 2 * rowsN l + _ = _; omega⟩⟩ (by show L.length - ((i + 1 : Nat) : Int).toNat < L.length - (i : Int).toNat; omega)
  · have e1 : Dat.ilt (i : Int) (Dat.ofN (Dat.len L)) = false := by simp [hlt]
    rw [List.drop_of_length_le (by omega)] at fT tT
    simp only [List.map_nil, List.sum_nil] at fT tT
    rw [e1, cond_false]
    show some (sf, st) = _
    have a1 : sf = (L.map bucks).sum := by omega
    have a2 : st = 2 * (L.map rowsN).sum := by omega
    rw [a1, a2]

theorem ref08_Seals_spec (c : CfgT) : ref08_Seals c = some (sealS c) := by
  unfold ref08_Seals sealS
  show Dat.bind (ref08_May c) (fun x1 => bif Dat.bnot x1 then _ else Dat.bind (ref08_Counts c) _) = _
  rw [ref08_May_spec, Dat.bind_some]
  cases hm : mayB c with
  | false => rfl
  | true =>
    obtain ⟨N, hL4⟩ := mayB_nums hm
    have e0 : Dat.bnot true = false := rfl
    rw [e0, cond_false, ref08_Counts_spec N, Dat.bind_some, if_pos rfl]
end Go.Proofs.Ytjbgbpcjgkjdcaa
