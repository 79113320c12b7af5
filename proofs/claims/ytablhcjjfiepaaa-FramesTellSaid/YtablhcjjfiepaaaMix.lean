/- Rows that may grow, in specs. -/
import Derived.Test.YtablhcjjfiepaaaM6
namespace Go.Proofs.Ytablhcjjfiepaaa
open Go.Eng
set_option linter.unusedVariables false
set_option linter.unusedSimpArgs false
def GR {α : Type} (m : List (List α)) (d : MixE α) (l : List α) : Prop:=∃ k,k < m.length∧d=.ref k 0 l.length l.length∧m.getD k []=l
theorem gr_new {α : Type} : GR ([[]] : List (List α)) (Dat.xnew 0 0) []:=⟨0,by simp,rfl,rfl⟩
theorem vWs {α : Type} {m : List (List α)} {k : Nat} (h : k < m.length) : m.getD k []=m[k]:=by simp [List.getD,h]
theorem gr_gr {α : Type} {m : List (List α)} {d : MixE α} {l : List α} (h : GR m d l) : Dat.XGr m d:=by
 obtain ⟨k,h1,rfl,h2⟩:=h
 rw [vWs h1] at h2
 simp [Dat.XGr,MixE.xgr,h1,h2]
theorem gr_w {α : Type} {m : List (List α)} {d : MixE α} {l : List α} (h : GR m d l) : Dat.XW m d:=by
 obtain ⟨k,h1,rfl,h2⟩:=h
 rw [vWs h1] at h2
 simp [Dat.XW,MixE.xw,h1,h2]
theorem gr_len {α : Type} {m : List (List α)} {d : MixE α} {l : List α} (h : GR m d l) : Dat.xlen d=l.length:=by
 obtain ⟨k,h1,rfl,h2⟩:=h; rfl
theorem gr_get {α : Type} {m : List (List α)} {d : MixE α} {l : List α} (h : GR m d l) : Dat.xget m d=l:=by
 obtain ⟨k,h1,rfl,h2⟩:=h
 show ((m.getD k []).drop 0).take l.length=l
 rw [h2,List.drop_zero,List.take_length]
theorem gr_app {α : Type} {m : List (List α)} {d : MixE α} {l : List α} (h : GR m d l) (ys : List α) : GR (Dat.xapp m d ys) (Dat.vX4 d ys.length) (l++ys):=by
 obtain ⟨k,h1,rfl,h2⟩:=h
 refine ⟨k,by simp [Dat.xapp,h1],by simp [Dat.vX4], ?_⟩
 show (m.set k (m.getD k []++ys)).getD k []=l++ys
 rw [h2]; simp [List.getD,h1]
end Go.Proofs.Ytablhcjjfiepaaa
