/- All levels, and roads, as program and document count them. -/
import Derived.Test.YtnbmjkbbppcbcaaConf
import Derived.Test.YtnbmjkbbppcbcaaSameInts
namespace Go.Proofs.Ytnbmjkbbppcbcaa
open Go.Eng
set_option linter.unusedVariables false
set_option linter.unusedSimpArgs false
theorem seg1{α:Type}(x:α):Z.seg (x::([]:List α)) 0 1=[x]:=rfl
theorem le1{α:Type}(x:α):Z.Le (Z.addN 0 1) (Z.len (x::([]:List α))):=Qf _
theorem small{α:Type}{l:List α}(h:l.length≤200)(x:α){b:Nat}(hb:b≤64):¬Z.Big (Z.len l) (Z.len (Z.seg (x::([]:List α)) 0 1)) b:=by
 show¬(2^44<(l.length+1)*(b+1));have:(l.length+1)*(b+1)≤201*65:=Nat.mul_le_mul (by omega) (by omega)
 omega
noncomputable def allS(c:CfgT):List LvlT:=(LV c c.1 c.2.1).map (lvlS c)
theorem yW9(c:CfgT):(allS c).length≤64:=by
 unfold allS;rw[Qk];exact vWj _ _ 64 _ _
theorem yXh{c:CfgT}(N:Nums c):yQq c=some (allS c):=by
 unfold yQq;have p1:=N.p1;have p2:=N.p2;have s1:=N.s1;have s2:=N.s2;rw[if_pos (show Z.EqN 0 (Z.len ([]:List LvlT))from rfl)]
 refine zQt (fun(s:List LvlT×(Int×Int))=>∃n z:Int,(1≤n∧n≤64∧0≤z∧z≤32)∧s.2=(n,z)∧s.1++(LV c n z).map (lvlS c)=allS c) (fun s=>s.2.1.toNat) ?_ ⟨c.1,c.2.1,⟨p1,p2,by omega,s2⟩,rfl,rfl⟩ (by show c.1.toNat<_;omega)
 rintro⟨acc,sn⟩ k ⟨n,z,⟨n1,n2,z1,z2⟩,rfl,hT⟩ hk;replace hT:acc++(LV c n z).map (lvlS c)=allS c:=hT;have hlen:acc.length≤64:=by
  have h1:=congrArg List.length hT;have h2:=yW9 c;rw[Q5]at h1;omega
 have hLV:=vJk N n1 n2 (s:=z);obtain⟨w1,w2,w3⟩:=xJ9 N z1 z2;simp only;rw[w1,Z.zX7,w2,Z.zX7,w3,Z.zX7,xQj n n2,Z.bind_some,if_pos (le1 _),if_neg (small (by omega) _ (by omega)),if_pos True.intro,seg1,Z.vYd,Z.zX7]
 by_cases ht:n≤c.2.2.2.2.2.2.2.2.1
 ·have e2:Z.ile n c.2.2.2.2.2.2.2.2.1=true:=by simp[Z.ile,ht]
  rw[hLV,if_pos ht]at hT;rw[e2,cond_true,←hT];rfl
 ·obtain⟨g1,g2,g3,g4,g5,g6,g7⟩:=xZ9 N n1 n2 ht
  have e2:Z.ile n c.2.2.2.2.2.2.2.2.1=false:=by simp[Z.ile];omega
  rw[hLV,if_neg ht]at hT;rw[e2,cond_false,g1,Z.zX7,g2,Z.zX7,if_neg g3,g4,Z.zX7,g5,Z.zX7,if_pos True.intro];refine hk (_,(_,_)) ⟨nxt c.2.2.1 n,4*c.2.2.1,⟨g6,by omega,by have:=N.f1;omega,by have:=N.f2;omega⟩,rfl, ?_⟩ (by show(nxt c.2.2.1 n).toNat<n.toNat;omega)
  rw[←hT];simp[lvlS]
theorem xW6(c:CfgT):yZq c=some (mayB c):=by
 unfold yZq;rw[eta,yZp,Z.bind_some];unfold mayB;cases hn:xKx c with
 |false=>rfl
 |true=>
  rw[cond_true,yXh (wXa hn),Z.bind_some];have:(allS c).length=(LV c c.1 c.2.1).length:=by simp[allS]
  simp only[Z.vQ3,Z.ile,Z.ofN_eq,Z.len_eq,this,Jv];congr 1;rw[decide_eq_decide];omega
theorem yZ6{c:CfgT}(h:mayB c=true):Nums c∧(LV c c.1 c.2.1).length≤4:=by
 simp only[mayB,Qb,decide_eq_true_eq]at h;exact⟨wXa h.1,h.2⟩
end Go.Proofs.Ytnbmjkbbppcbcaa
