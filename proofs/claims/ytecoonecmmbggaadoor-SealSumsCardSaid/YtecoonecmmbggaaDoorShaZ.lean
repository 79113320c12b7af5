/- SHA-256 at texts that are known: a way to reckon it. -/
import Derived.Test.YtecoonecmmbggaaDoorShaE
import Derived.KernelRfl
namespace Go.Proofs.YtecoonecmmbggaaDoor
open Go.Eng
set_option linter.unusedVariables false
set_option linter.unusedSimpArgs false

def force {α : Type} (n : Nat) (f : Nat → α) : α := Nat.rec (f 0) (fun k _ => f (k + 1)) n
theorem force_eq {α : Type} (n : Nat) (f : Nat → α) : force n f = f n := by cases n <;> rfl
def fW {α : Type} (x : W32) (f : W32 → α) : α := force x.toNat fun n => f (BitVec.ofNat 32 n)
theorem fW_eq {α : Type} (x : W32) (f : W32 → α) : fW x f = f x := by
  unfold fW
  rw [force_eq]
  simp

/-! ### The words, the last one first -/
def nwR (w : List W32) : W32 := w.getD 15 0 + w.getD 6 0 + sg 7 18 3 true (w.getD 14 0) + sg 17 19 10 true (w.getD 1 0)
def schA {α : Type} (K : List W32 → α) : Nat → List W32 → α
  | 0, w => K w
  | n + 1, w => fW (nwR w) fun x => schA K n (x :: w)

def vW (b : List Int) (t : Nat) : W32 := (stW b 64).getD t 0
theorem stW_more (b : List Int) (i : Nat) : ∀ t, i < t → (stW b t).getD i 0 = (stW b (i + 1)).getD i 0
  | 0, h => by omega
  | t + 1, h => by
    by_cases e : t = i
    · subst e; rfl
    · rw [← stW_more b i t (by omega)]
      simp only [stW, List.getD, List.getElem?_set_ne e]
theorem vW_eq (b : List Int) {i t : Nat} (h : i < t) (h2 : t ≤ 64) : (stW b t).getD i 0 = vW b i := by
  rw [stW_more b i t h, vW, stW_more b i 64 (by omega)]
theorem vW_new (b : List Int) {t : Nat} (h : t < 64) : vW b t = if t < 16 then wd b t else nwW (stW b t) t := by
  rw [vW, stW_more b t 64 h]
  simp only [stW]
  have hl : t < (stW b t).length := by rw [stW_len]; exact h
  simp only [List.getD, List.getElem?_set_self hl, Option.getD_some]
theorem vW_rec (b : List Int) {t : Nat} (h : t < 64) (h16 : 16 ≤ t) : vW b t = vW b (t - 16) + vW b (t - 7) + sg 7 18 3 true (vW b (t - 15)) + sg 17 19 10 true (vW b (t - 2)) := by
  rw [vW_new b h, if_neg (by omega), nwW, show ((t : Int) - 16).toNat = t - 16 by omega, show ((t : Int) - 7).toNat = t - 7 by omega, show ((t : Int) - 15).toNat = t - 15 by omega, show ((t : Int) - 2).toNat = t - 2 by omega,
    vW_eq b (by omega) (by omega), vW_eq b (by omega) (by omega), vW_eq b (by omega) (by omega), vW_eq b (by omega) (by omega)]

/-- The first so many words, the last one first. -/
def rv (b : List Int) : Nat → List W32
  | 0 => []
  | n + 1 => vW b n :: rv b n
theorem rv_len (b : List Int) : ∀ n, (rv b n).length = n
  | 0 => rfl
  | n + 1 => by simp [rv, rv_len b n]
attribute [local irreducible] vW
theorem rv_get (b : List Int) : ∀ (n i : Nat), i < n → (rv b n).getD i 0 = vW b (n - 1 - i)
  | 0, i, h => by omega
  | n + 1, 0, h => by rw [rv, List.getD_cons_zero, Nat.sub_zero, Nat.add_sub_cancel]
  | n + 1, i + 1, h => by
    rw [rv, List.getD_cons_succ, rv_get b n i (by omega), show n + 1 - 1 - (i + 1) = n - 1 - i by omega]
theorem schA_eq {α : Type} (K : List W32 → α) (b : List Int) : ∀ (n k : Nat), 16 ≤ k → k + n ≤ 64 → schA K n (rv b k) = K (rv b (k + n))
  | 0, k, _, _ => rfl
  | n + 1, k, hk, hn => by
    simp only [schA]
    rw [fW_eq]
    have e : nwR (rv b k) = vW b k := by
      unfold nwR
      rw [rv_get b k 15 (by omega), rv_get b k 6 (by omega), rv_get b k 14 (by omega), rv_get b k 1 (by omega), vW_rec b (by omega) hk]
      rw [show k - 1 - 15 = k - 16 by omega, show k - 1 - 6 = k - 7 by omega, show k - 1 - 14 = k - 15 by omega, show k - 1 - 1 = k - 2 by omega]
    rw [e]
    have := schA_eq K b n (k + 1) (by omega) (by omega)
    rw [show k + 1 + n = k + (n + 1) by omega] at this
    exact this

/-! ### The rounds -/
def rsA {α : Type} (K : W32 → W32 → W32 → W32 → W32 → W32 → W32 → W32 → α) : List W32 → W32 → W32 → W32 → W32 → W32 → W32 → W32 → W32 → α
  | [], a, b, c, d, e, f, g, h => K a b c d e f g h
  | x :: l, a, b, c, d, e, f, g, h => fW (h + sg 6 11 25 false e + ((e &&& f) ^^^ ((4294967295#32 ^^^ e) &&& g)) + x) fun p =>
      fW (p + (sg 2 13 22 false a + ((a &&& b) ^^^ (a &&& c) ^^^ (b &&& c)))) fun n => fW (d + p) fun m => rsA K l n a b c m e f g
def onK {α : Type} (K : W32 → W32 → W32 → W32 → W32 → W32 → W32 → W32 → α) (s : List W32) : α :=
  K (s.getD 0 0) (s.getD 1 0) (s.getD 2 0) (s.getD 3 0) (s.getD 4 0) (s.getD 5 0) (s.getD 6 0) (s.getD 7 0)
theorem rsA_eq {α : Type} (K : W32 → W32 → W32 → W32 → W32 → W32 → W32 → W32 → α) : ∀ (l : List W32) (a b c d e f g h : W32), rsA K l a b c d e f g h = onK K (l.foldl rdW [a, b, c, d, e, f, g, h])
  | [], a, b, c, d, e, f, g, h => rfl
  | x :: l, a, b, c, d, e, f, g, h => by
    simp only [rsA, fW_eq, List.foldl_cons]
    rw [rsA_eq K l]
    rfl
theorem rsW_fold (W : List W32) (b : List Int) : ∀ t, rsW W b t = ((List.range t).map fun i => kW.getD i 0 + vW b i).foldl rdW W
  | 0 => rfl
  | t + 1 => by
    rw [List.range_succ, List.map_append, List.foldl_append, ← rsW_fold W b t, List.map_cons, List.map_nil, List.foldl_cons, List.foldl_nil, rsW, vW]
def kwl (b : List Int) (w : List W32) : List W32 := List.zipWith (fun x y => x + y) kW w.reverse
theorem rv_rev (b : List Int) : ∀ n, (rv b n).reverse = (List.range n).map (vW b)
  | 0 => rfl
  | n + 1 => by simp [rv, rv_rev b n, List.range_succ]
theorem kwl_eq (b : List Int) : kwl b (rv b 64) = (List.range 64).map fun i => kW.getD i 0 + vW b i := by
  unfold kwl
  rw [rv_rev]
  apply List.ext_getElem?
  intro i
  have hk : kW.length = 64 := by decide
  simp only [List.getElem?_zipWith, List.getElem?_map]
  by_cases h : i < 64
  · rw [List.getElem?_range h, List.getElem?_eq_getElem (by omega)]
    simp [List.getD, hk, h]
  · rw [List.getElem?_eq_none (by omega)]
    rw [List.getElem?_eq_none (by simpa using h)]
    rfl

/-- A block, reckoned. -/
def trnK {α : Type} (K : List W32 → α) (W : List W32) (b : List Int) : α :=
  schA (fun w => rsA (fun x0 x1 x2 x3 x4 x5 x6 x7 =>
    fW (W.getD 0 0 + x0) fun y0 => fW (W.getD 1 0 + x1) fun y1 => fW (W.getD 2 0 + x2) fun y2 => fW (W.getD 3 0 + x3) fun y3 =>
    fW (W.getD 4 0 + x4) fun y4 => fW (W.getD 5 0 + x5) fun y5 => fW (W.getD 6 0 + x6) fun y6 => fW (W.getD 7 0 + x7) fun y7 => K [y0, y1, y2, y3, y4, y5, y6, y7])
    (kwl b w) (W.getD 0 0) (W.getD 1 0) (W.getD 2 0) (W.getD 3 0) (W.getD 4 0) (W.getD 5 0) (W.getD 6 0) (W.getD 7 0)) 48
    [wd b 15, wd b 14, wd b 13, wd b 12, wd b 11, wd b 10, wd b 9, wd b 8, wd b 7, wd b 6, wd b 5, wd b 4, wd b 3, wd b 2, wd b 1, wd b 0]
theorem adW_8 (W n : List W32) (hW : W.length = 8) : adW W n 8 = [W.getD 0 0 + n.getD 0 0, W.getD 1 0 + n.getD 1 0, W.getD 2 0 + n.getD 2 0, W.getD 3 0 + n.getD 3 0, W.getD 4 0 + n.getD 4 0, W.getD 5 0 + n.getD 5 0, W.getD 6 0 + n.getD 6 0, W.getD 7 0 + n.getD 7 0] := by
  match W, hW with
  | [a, b, c, d, e, f, g, h], _ => rfl
theorem trnK_eq {α : Type} (K : List W32 → α) (W : List W32) (b : List Int) (hW : W.length = 8) : trnK K W b = K (trn W b) := by
  have h16 : [wd b 15, wd b 14, wd b 13, wd b 12, wd b 11, wd b 10, wd b 9, wd b 8, wd b 7, wd b 6, wd b 5, wd b 4, wd b 3, wd b 2, wd b 1, wd b 0] = rv b 16 := by
    have e : ∀ t, t < 16 → vW b t = wd b t := fun t ht => by rw [vW_new b (by omega), if_pos ht]
    simp only [rv, e 15 (by decide), e 14 (by decide), e 13 (by decide), e 12 (by decide), e 11 (by decide), e 10 (by decide), e 9 (by decide), e 8 (by decide), e 7 (by decide), e 6 (by decide), e 5 (by decide), e 4 (by decide), e 3 (by decide), e 2 (by decide), e 1 (by decide), e 0 (by decide)]
  unfold trnK
  rw [h16, schA_eq _ b 48 16 (by decide) (by decide), rsA_eq]
  simp only [onK, fW_eq]
  rw [kwl_eq, ← adW_8 W _ hW]
  have eW : [W.getD 0 0, W.getD 1 0, W.getD 2 0, W.getD 3 0, W.getD 4 0, W.getD 5 0, W.getD 6 0, W.getD 7 0] = W := by
    match W, hW with
    | [a, b, c, d, e, f, g, h], _ => rfl
  rw [eW, ← rsW_fold W b 64, trn]
end Go.Proofs.YtecoonecmmbggaaDoor
