/- Maps of whole numbers. -/
import Derived.Test.YtablhcjjfiepaaaM6
namespace Go.Proofs.Ytablhcjjfiepaaa
open Go.Eng
set_option linter.unusedVariables false
set_option linter.unusedSimpArgs false
theorem xZ0 {n : Int} : ∀ {es : List (Int × Int)} {i : Nat} {q : Nat × Int}, Dat.zKv n es i = some q → i ≤ q.1 ∧ ∃ p, es[q.1 - i]? = some p ∧ p.1 = n ∧ p.2 = q.2
 | [],i,q,h=>by simp [Dat.zKv] at h
 | p::es,i,q,h=>by
  simp only [Dat.zKv] at h
  split at h
  ·rename_i hp
   simp at h; subst h
   simp only [beq_iff_eq] at hp
   exact ⟨Nat.le_refl _,p,by simp,hp.symm,rfl⟩
  ·obtain ⟨h1, p', h2, h3⟩ := xZ0 h
   exact ⟨by omega,p',by rw [show q.1 - i=(q.1 - (i+1))+1 by omega]; simpa using h2,h3⟩
theorem yYe {n : Int} {p : Int × Int} : ∀ (es : List (Int × Int)) (i : Nat), Dat.zKv n (es ++ [p]) i = match Dat.zKv n es i with | some q => some q | none => if n == p.1 then some (i + es.length, p.2) else none
 | [],i=>by simp [Dat.zKv]
 | x::es,i=>by
  have:=yYe (n:=n) (p:=p) es (i+1)
  simp only [List.cons_append,Dat.zKv]
  by_cases h : (n == x.1)=true
  ·rw [if_pos h,if_pos h]
  ·rw [if_neg h,if_neg h,this,List.length_cons,show i+1+es.length=i+(es.length+1) by omega]
def mval (es : List (Int×Int)) (b : Int) : Option Int:=(Dat.zKv b es 0).map (·.2)
theorem wW3 (es : List (Int×Int)) (b : Int) : Dat.mget es b=(mval es b).getD 0:=rfl
theorem wQj {n v b : Int} : ∀ (es : List (Int × Int)) (i j : Nat) (w : Int), Dat.zKv n es i = some (j, w) → (Dat.zKv b (es.set (j - i) (n, v)) i).map (·.2) = if b = n then some v else (Dat.zKv b es i).map (·.2)
 | [],i,j,w,h=>by simp [Dat.zKv] at h
 | x::es,i,j,w,h=>by
  simp only [Dat.zKv] at h
  split at h
  ·rename_i hx
   simp only [Option.some.injEq,Prod.mk.injEq] at h
   obtain ⟨rfl,rfl⟩:=h
   simp only [beq_iff_eq] at hx
   rw [Nat.sub_self,List.set_cons_zero]
   simp only [Dat.zKv]
   by_cases hb : b=n
   ·subst hb; simp
   ·rw [if_neg (by simpa using hb),if_neg hb,if_neg (by simpa [← hx] using hb)]
  ·rename_i hx
   have hle:=(xZ0 h).1
   have ih:=wQj (b:=b) (v:=v) es (i+1) j w h
   rw [show j - i=(j - (i+1))+1 by simp at hle; omega,List.set_cons_succ]
   simp only [Dat.zKv]
   by_cases hbx : (b == x.1)=true
   ·rw [if_pos hbx, if_pos hbx]
    simp only [beq_iff_eq] at hbx hx
    rw [if_neg (fun e : b=n=>hx (e.symm.trans hbx))]
   ·rw [if_neg hbx,if_neg hbx,ih]
theorem xJg (es : List (Int×Int)) (n v b : Int) : mval (Dat.mput es n v) b=if b=n then some v else mval es b:=by
 unfold mval Dat.mput
 cases h : Dat.zKv n es 0 with
 | some q =>
  have:=wQj (b:=b) (v:=v) es 0 q.1 q.2 h
  simpa using this
 | none =>
  simp only [yYe]
  by_cases hb : b=n
  ·subst hb; rw [h]; simp
  ·rw [if_neg hb]
   cases hx : Dat.zKv b es 0 with
   | some q=>rfl
   | none=>simp [hb]
end Go.Proofs.Ytablhcjjfiepaaa
