/- Levels, widths and counts, as program and document count them. -/
import Derived.Test.YtghnechjgchajaaConfall
namespace Go.Proofs.Ytghnechjgchajaa
open Go.Eng
set_option linter.unusedVariables false
set_option linter.unusedSimpArgs false
theorem xQv(c:CfgT):yWj c=some (if mayB c then(allS c,0)else([],8)):=by
 unfold yWj;show Z.bind (yQr c) _=_;rw[xZn,Z.bind_some];cases hm:mayB c with
 |false=>rfl
 | true=>
  obtain⟨N,hL4⟩:=zJ6 hm;have p2:=N.p2;have s1:=N.s1;have e0:Z.ine (if true=true then 0 else 8) 0=false:=rfl
  have m0:Z.MkOk 0 4 32:=Z.zKh.2 ⟨by decide,by decide,by decide,by decide⟩
  rw[e0,cond_false,if_pos m0];show Z.bind (zZj (c,c.1,c.2.1)) _=_;rw[zKe N p2 (by omega) N.s2,Z.bind_some,if_pos (show Z.EqN (Z.toN 0) 0 from Z.vYw),if_pos (show Z.EqN 0 (Z.len ([]:List LvlT))from rfl),if_pos rfl]
  refine zQn (fun(s:(Int×(Int×(Int×Int)))×List LvlT)=>∃(n z:Int),atL c s.1 n z∧s.2++(LV c n z).map (lvlS c)=allS c) (fun s=>s.1.1.toNat) ?_ ⟨c.1,c.2.1,⟨N.p1,p2,by omega,N.s2,rfl⟩,rfl⟩ (by show c.1.toNat<_;omega)
  rintro⟨sl,acc⟩ k ⟨n,z,⟨n1,n2,z1,z2,hl⟩,hT⟩ hk;replace hl:sl=_:=hl;subst hl;replace hT:acc++(LV c n z).map (lvlS c)=allS c:=hT;have hlen:acc.length≤64:=by
   have h1:=congrArg List.length hT;have h2:=zYw c;rw[Qz]at h1;omega
  have hLV:=uWz N n1 n2 (s:=z);show(if Z.Le (Z.addN 0 1) (Z.len (lvlS c (n,z)::([]:List LvlT)))then(if Z.Big (Z.len acc) (Z.len (Z.seg (lvlS c (n,z)::([]:List LvlT)) 0 1)) 32 then none else if Z.EqN (Z.len acc) (Z.len acc)then Z.bnd (Z.app acc (Z.seg (lvlS c (n,z)::([]:List LvlT)) 0 1)) fun x17=>Z.bind (some (decide (n≤c.2.2.2.2.2.2.2.2.1))) _ else none)else none)=_
  rw[if_pos (le1 _),if_neg (small (by omega) _ (by omega)),if_pos (Z.vQz _),seg1,Z.uXs,Z.zZd,Z.bind_some]
  by_cases ht:n≤c.2.2.2.2.2.2.2.2.1
  ·have e2:Z.zQi true (Z.bnot (decide (n≤c.2.2.2.2.2.2.2.2.1))) false=false:=by simp[ht]
   rw[hLV,if_pos ht]at hT;rw[e2,cond_false,←hT];rfl
  ·obtain⟨g1,g2,g3,g4,g5,g6,g7⟩:=xYi N n1 n2 ht
   have e2:Z.zQi true (Z.bnot (decide (n≤c.2.2.2.2.2.2.2.2.1))) false=true:=by simp[ht]
   rw[hLV,if_neg ht]at hT;rw[e2,cond_true];show Z.bnd (Z.wrap .i64 (Z.add n c.2.2.1)) _=_;rw[g1,Z.zZd,g2,Z.zZd,if_neg g3,g4,Z.zZd,g5,Z.zZd];show Z.bind (zZj (c,nxt c.2.2.1 n,4*c.2.2.1)) _=_
   rw[zKe N (by omega) (by have:=N.f1;omega) (by have:=N.f2;omega),Z.bind_some,if_pos (Z.vQz _)]
   refine hk (_,_) ⟨nxt c.2.2.1 n,4*c.2.2.1,⟨g6,by omega,by have:=N.f1;omega,by have:=N.f2;omega,rfl⟩, ?_⟩ (by show(nxt c.2.2.1 n).toNat<n.toNat;omega)
   rw[←hT];simp
end Go.Proofs.Ytghnechjgchajaa
