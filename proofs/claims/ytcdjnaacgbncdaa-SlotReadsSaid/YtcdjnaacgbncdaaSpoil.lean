/- A row of one's own, written over. -/
import Derived.Test.YtcdjnaacgbncdaaM6
namespace Go.Proofs.Ytcdjnaacgbncdaa
open Go.Eng
set_option linter.unusedVariables false
set_option linter.unusedSimpArgs false

theorem spoil_ok {β : Type} (kd : IntKind) (n : Nat) (x : List Int) (hx : x.length = n) (hn : n < 4611686018427387904) (r : β) (R : Option β) (hR : R = some r) :
    Dat.loop (fun (s : Int × List Int) (k : Int × List Int → Option β) =>
      (bif (Dat.ilt s.1 (Dat.ofN n)) then if (Dat.In s.1 n) then if (Dat.Lt (Dat.addN 0 (Dat.toN s.1)) (Dat.len s.2)) then Dat.bnd (Dat.get s.2 (Dat.addN 0 (Dat.toN s.1)) 0) fun (x1 : Int) =>
        Dat.bnd (Dat.wrap kd (Dat.add x1 1)) fun (x2 : Int) =>
        if (Dat.In s.1 n) then if (Dat.Lt (Dat.addN 0 (Dat.toN s.1)) (Dat.len s.2)) then Dat.bnd (Dat.set s.2 (Dat.addN 0 (Dat.toN s.1)) x2) fun (x3 : List Int) =>
        Dat.bnd (Dat.wrap .i64 (Dat.add s.1 1)) fun (x4 : Int) =>
        k (x4, x3)
        else none
        else none
        else none
        else none
      else R)) (0, x) = some r := by
  subst hR
  refine loop_inv (fun s => ∃ i : Nat, s.1 = (i : Int) ∧ i ≤ n ∧ s.2.length = n) (fun s => ((n : Int) - s.1).toNat) ?_ ⟨0, rfl, by omega, hx⟩ (by simp <;> omega)
  rintro ⟨si, sl⟩ k ⟨i, rfl, hle, hl⟩ hk
  simp only at hl
  by_cases hi : i < n
  · have e1 : Dat.ilt (i : Int) (Dat.ofN n) = true := by simp [Dat.ilt, hi]
    have c1 : Dat.In (i : Int) n := ⟨by omega, by omega⟩
    have c2 : Dat.Lt (Dat.addN 0 (Dat.toN (i : Int))) (Dat.len sl) := by show 0 + (i : Int).toNat < sl.length; omega
    have w : Dat.wrap .i64 (Dat.add (i : Int) 1) = ((i + 1 : Nat) : Int) := Dat.succ_i64 (by omega)
    simp only
    rw [e1, cond_true, if_pos c1, if_pos c2, Dat.bnd_eq, Dat.bnd_eq, if_pos c1, if_pos c2, Dat.bnd_eq, w, Dat.bnd_eq]
    exact hk _ ⟨i + 1, rfl, by omega, by simp [hl]⟩ (by simp only; omega)
  · have e1 : Dat.ilt (i : Int) (Dat.ofN n) = false := by simp [Dat.ilt, hi]
    simp only
    rw [e1, cond_false]

/-- The same, where the row is known to be empty. -/
theorem spoil_nil {β : Type} (x : List Int) (hx : x.length = 0) (r : β) (R : Option β) (hR : R = some r) (A : Int → (Int → Option β) → Option β) :
    Dat.loop (fun (s : Int) (k : Int → Option β) => (bif (Dat.ilt s (Dat.ofN (Dat.len x))) then A s k else R)) 0 = some r := by
  subst hR
  refine loop_inv (fun s => s = 0) (fun s => 0) ?_ rfl (by decide)
  rintro s k rfl hk
  have e1 : Dat.ilt 0 (Dat.ofN (Dat.len x)) = false := by simp [Dat.ilt, hx]
  rw [e1, cond_false]
end Go.Proofs.Ytcdjnaacgbncdaa
