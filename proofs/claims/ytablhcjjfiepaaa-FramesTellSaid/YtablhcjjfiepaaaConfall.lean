/- All levels, and roads, as program and document count them. -/
import Derived.Test.YtablhcjjfiepaaaConf
import Derived.Test.YtablhcjjfiepaaaSameInts
namespace Go.Proofs.Ytablhcjjfiepaaa
open Go.Eng
set_option linter.unusedVariables false
set_option linter.unusedSimpArgs false
theorem seg1 {α : Type} (x : α) : Dat.seg (x::([] : List α)) 0 1=[x]:=rfl
theorem le1 {α : Type} (x : α) : Dat.Le (Dat.addN 0 1) (Dat.len (x::([] : List α))):=Nat.le_refl _
theorem small {α : Type} {l : List α} (h : l.length≤200) (x : α) {b : Nat} (hb : b≤64) : ¬ Dat.Big (Dat.len l) (Dat.len (Dat.seg (x::([] : List α)) 0 1)) b:=by
 show ¬ (2 ^ 44 < (l.length+1) * (b+1))
 have : (l.length+1) * (b+1)≤201 * 65:=Nat.mul_le_mul (by omega) (by omega)
 omega
noncomputable def allS (c : CfgT) : List LvlT:=(LV c c.1 c.2.1).map (lvlS c)
theorem vKr (c : CfgT) : (allS c).length≤64:=by
 unfold allS
 rw [List.length_map]
 exact vQ6 _ _ 64 _ _
theorem xXp {c : CfgT} (N : Nums c) : yZw c=some (allS c):=by
 unfold yZw
 have p1:=N.p1
 have p2:=N.p2
 have s1:=N.s1
 have s2:=N.s2
 rw [if_pos (show Dat.EqN 0 (Dat.len ([] : List LvlT)) from rfl)]
 refine zQ2 (fun (s : List LvlT×(Int×Int))=>∃ n z : Int,(1≤n∧n≤64∧0≤z∧z≤32)∧s.2=(n,z)∧s.1++(LV c n z).map (lvlS c)=allS c) (fun s=>s.2.1.toNat) ?_ ⟨c.1,c.2.1,⟨p1,p2,by omega,s2⟩,rfl,rfl⟩ (by show c.1.toNat < _; omega)
 rintro ⟨acc,sn⟩ k ⟨n,z,⟨n1,n2,z1,z2⟩,rfl,hT⟩ hk
 replace hT : acc++(LV c n z).map (lvlS c)=allS c:=hT
 have hlen : acc.length≤64:=by
  have h1:=congrArg List.length hT
  have h2:=vKr c
  rw [List.length_append] at h1; omega
 have hLV:=LV_eq N n1 n2 (s:=z)
 obtain ⟨w1,w2,w3⟩:=xYl N z1 z2
 simp only
 rw [w1,Dat.zZp,w2,Dat.zZp,w3,Dat.zZp,xQx n n2,Dat.bind_some,if_pos (le1 _),if_neg (small (by omega) _ (by omega)),if_pos True.intro,seg1,Dat.app_eq,Dat.zZp]
 by_cases ht : n≤c.2.2.2.2.2.2.2.2.1
 ·have e2 : Dat.ile n c.2.2.2.2.2.2.2.2.1 = true := by simp [Dat.ile, ht]
  rw [hLV,if_pos ht] at hT
  rw [e2,cond_true,← hT]; rfl
 ·obtain ⟨g1, g2, g3, g4, g5, g6, g7⟩ := wZm N n1 n2 ht
  have e2 : Dat.ile n c.2.2.2.2.2.2.2.2.1=false:=by simp [Dat.ile]; omega
  rw [hLV,if_neg ht] at hT
  rw [e2,cond_false,g1,Dat.zZp,g2,Dat.zZp,if_neg g3,g4,Dat.zZp,g5,Dat.zZp,if_pos True.intro]
  refine hk (_,(_,_)) ⟨nxt c.2.2.1 n,4 * c.2.2.1,⟨g6,by omega,by have:=N.f1; omega,by have:=N.f2; omega⟩,rfl, ?_⟩ (by show (nxt c.2.2.1 n).toNat < n.toNat; omega)
  rw [← hT]
  simp [lvlS]
theorem yXt (c : CfgT) : yQ6 c=some (mayB c):=by
 unfold yQ6
 rw [eta,yZv,Dat.bind_some]
 unfold mayB
 cases hn : xWh c with
 | false=>rfl
 | true =>
  rw [cond_true,xXp (vQw hn),Dat.bind_some]
  have : (allS c).length=(LV c c.1 c.2.1).length:=by simp [allS]
  simp only [Dat.vQl,Dat.ile,Dat.vK5,Dat.len_eq,this,Bool.true_and]
  congr 1
  rw [decide_eq_decide]; omega
end Go.Proofs.Ytablhcjjfiepaaa
