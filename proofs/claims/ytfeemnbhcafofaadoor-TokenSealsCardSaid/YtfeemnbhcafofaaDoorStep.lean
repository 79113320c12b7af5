/- Steps through a function's text, one at a time. -/
import Derived.Test.YtfeemnbhcafofaaDoorFns
import Derived.Test.YtfeemnbhcafofaaDoorM6
namespace Go.Proofs.YtfeemnbhcafofaaDoor
open Go.Eng
set_option linter.unusedVariables false
theorem zQa {β : Type} {c : Prop} [Decidable c] {A : Option β} {r : β} (hc : c) (h : A=some r) : (if c then A else none)=some r:=by rw [if_pos hc]; exact h
theorem zQy {β : Type} {c : Prop} [Decidable c] {B : Option β} {r : β} (hc : ¬ c) (h : B=some r) : (if c then none else B)=some r:=by rw [if_neg hc]; exact h
theorem zQq {β : Type} {c : Bool} {A B : Option β} {r : β} (hc : c=true) (h : A=some r) : (bif c then A else B)=some r:=by rw [hc]; exact h
theorem zQm {β : Type} {c : Bool} {A B : Option β} {r : β} (hc : c=false) (h : B=some r) : (bif c then A else B)=some r:=by rw [hc]; exact h
theorem zQb {α β : Type} {x y : α} {k : α→Option β} {r : β} (hx : x=y) (h : k y=some r) : Z.bnd x k=some r:=by rw [hx]; exact h
theorem zQe {α β : Type} {x : Option α} {y : α} {k : α→Option β} {r : β} (hx : x=some y) (h : k y=some r) : Z.bind x k=some r:=by rw [hx]; exact h
theorem zW9 {x : Int} (h : -9223372036854775808≤x∧x≤9223372036854775807) : Z.wrap .i64 x=x:=Z.wrap_i64 h.1 h.2
theorem wQg {x : Int} (h : 0≤x∧x < 18446744073709551616) : Z.wrap .u64 x=x:=Z.zZn h.1 h.2
theorem zQu {l : List Int} {n : Nat} (h : l.length=n) : Z.norm n l 0=l:=by
 subst h
 apply Jb
 intro i
 simp only [Z.norm,Qq]
 by_cases hi : i < l.length
 ·rw [List.getElem?_range hi,Qn hi]; simp [List.getD,hi]
 ·rw [Jd (by simpa using hi),Jd (by simpa using hi)]; rfl
theorem zKi (n x : Nat) (hn : n≤18446744073709551615) : n - x < 18446744073709551616:=by omega
end Go.Proofs.YtfeemnbhcafofaaDoor
