/- Harms: done twice; what else is turned; the chapter's examples. -/
import Derived.Test.YtghnechjgchajaaHarmB
import Derived.Test.YtghnechjgchajaaBits8
namespace Go.Proofs.Ytghnechjgchajaa
open Go.Eng
set_option linter.unusedVariables false
set_option linter.unusedSimpArgs false
theorem uQ3{α:Type}{l:List α}{i:Nat}(hi:i<l.length)(a z:α):(l.set i a).getD i z=a:=by
 rw[List.getD_eq_getElem?_getD,Qk hi];rfl
theorem vXf{d:List Lev}{i k:Nat}(hi:i<d.length)(b b':Byt):wrB (wrB d (i:Int) ((k+1:Nat):Int) b) (i:Int) ((k+1:Nat):Int) b'=wrB d (i:Int) ((k+1:Nat):Int) b':=by
 unfold wrB;rw[List.set_set,show((i:Int).toNat)=i from rfl,uQ3 hi,List.set_set]
theorem vQa{c:CfgT}{d d':List Lev}{l:List SeeT}{h:xZ9}(hok:zZs c d)(hall:∀x∈l,zW5 d x)(h5:¬h.1=5)(hh:hrm c d l h=some d'):
    ∃ (i:Nat) (hi:i<d.length) (x:Nat) (hx:x<d[i].length),h.2.1=(i:Int)∧h.2.2.1=((x+1:Nat):Int)∧
      ((h.1≠2∧∃b:Byt,b.length=d[i][x].length∧d'=wrB d (i:Int) ((x+1:Nat):Int) b)∨
       (h.1=2∧∃(y:Nat) (hy:y<d[i].length),h.2.2.2.1=((y+1:Nat):Int)∧d'=wrB (wrB d (i:Int) ((x+1:Nat):Int) d[i][y]) (i:Int) ((y+1:Nat):Int) d[i][x])):=by
  by_cases hp:plD d h.2.1 [h.2.2.1]
  rotate_left
  ·unfold hrm at hh;rw[if_neg h5,if_neg hp]at hh;simp at hh
  rw[vQb c d l h h5 hp]at hh;obtain⟨i,hi,x,hx,e1,e2⟩:=pl1.1 hp;have hb:bkt d h.2.1 h.2.2.1=d[i][x]:=by rw[e1,e2,zYv hi hx]
  have hvl:=xYb hall (level:=h.2.1) (bucket:=h.2.2.1);rw[hb]at hh hvl;refine⟨i,hi,x,hx,e1,e2, ?_⟩;rw[e1,e2]at hh hvl;split at hh
  · rename_i k1
    split at hh<;>(try (simp at hh;done))
    simp only[Qd]at hh;exact .inl ⟨by omega,_,by simp,hh.symm⟩
  rename_i k1;split at hh
  · rename_i k2
    split at hh<;>(try (simp at hh;done))
    rename_i hpB;obtain⟨i2,hi2,y,hy,f1,f2⟩:=pl1.1 hpB;have:i2=i:=by omega
    subst this;simp only[Qd]at hh;rw[f2,zYv hi2 hy]at hh;exact .inr ⟨k2,y,hy,f2,hh.symm⟩
  rename_i k2;split at hh
  · split at hh
    · simp only[Qd]at hh
      exact .inl ⟨k2,_,by simp,hh.symm⟩
    · split at hh<;>(try (simp at hh;done))
      rename_i v2;simp only[Qd]at hh;refine .inl ⟨k2,_,hvl _ ?_,hh.symm⟩;rw[List.getD_eq_getElem?_getD,Ql (by omega)]
      exact Qh _
  split at hh<;>(try (simp at hh;done))
  split at hh<;>(try (simp at hh;done))
  rename_i a;simp only[Qd]at hh;refine .inl ⟨k2,_,hvl _ ?_,hh.symm⟩;rw[List.getD_eq_getElem?_getD,Ql (by omega)]
  exact Qh _
theorem wQo{c:CfgT}{d d':List Lev}{l:List SeeT}{h:xZ9}(hok:zZs c d)(hall:∀x∈l,zW5 d x)(hh:hrm c d l h=some d'):dims d=dims d':=by
 by_cases h5:h.1=5
 ·unfold hrm at hh
  rw[if_pos h5]at hh;split at hh<;>(try (simp at hh;done))
  simp only[Qd]at hh;subst hh;obtain⟨k1,k2⟩:=yJw hok hall;have hr:=yKu (d:=nwS c) (l:=(wrL l).take h.2.2.2.2.1.toNat) (fun x hx=>k2 x (vXd (J8 hx))) _ (Qg _)
  rw[Q2]at hr;rw[←hr];exact wKr hok k1
 ·obtain⟨i,hi,x,hx,e1,e2,hw⟩:=vQa hok hall h5 hh
  rcases hw with⟨_,b,hb,rfl⟩|⟨_,y,hy,e3,rfl⟩
  ·exact xQy rfl hi hx b hb
  ·have hi':i<(shS c).length:=by have:=hok.2.1;omega
   have hsame:d[i][y].length=d[i][x].length:=by
    obtain⟨_,hq⟩:=hok.2.2 i hi hi';have q1:=hq _ (Qh hx);have q2:=hq _ (Qh hy);omega
   exact xQy (xQy rfl hi hx _ (by omega)) hi hy _ (by omega)
theorem uJh{c:CfgT}{d d':List Lev}{l:List SeeT}(hd:dims d=dims d')(hok:zZs c d)(hall:∀x∈l,zW5 d x):zZs c d'∧∀x∈l,zW5 d' x:=
 ⟨uKz hd hok,fun x hx=>(xXz hd x).1 (hall x hx)⟩
end Go.Proofs.Ytghnechjgchajaa
