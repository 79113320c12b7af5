/- All levels, and roads, as program and document count them. -/
import Derived.Test.YtghnechjgchajaaConf
import Derived.Test.YtghnechjgchajaaSameInts
namespace Go.Proofs.Ytghnechjgchajaa
open Go.Eng
set_option linter.unusedVariables false
set_option linter.unusedSimpArgs false
theorem seg1{α:Type}(x:α):Z.seg (x::([]:List α)) 0 1=[x]:=rfl
theorem le1{α:Type}(x:α):Z.Le (Z.addN 0 1) (Z.len (x::([]:List α))):=Qg _
theorem small{α:Type}{l:List α}(h:l.length≤200)(x:α){b:Nat}(hb:b≤64):¬Z.Big (Z.len l) (Z.len (Z.seg (x::([]:List α)) 0 1)) b:=by
 show¬(2^44<(l.length+1)*(b+1));have:(l.length+1)*(b+1)≤201*65:=Nat.mul_le_mul (by omega) (by omega)
 omega
noncomputable def allS(c:CfgT):List LvlT:=(LV c c.1 c.2.1).map (lvlS c)
theorem zYw(c:CfgT):(allS c).length≤64:=by
 unfold allS;rw[Qm];exact vKl _ _ 64 _ _
theorem zY4{c:CfgT}(N:Nums c):yQe c=some (allS c):=by
 unfold yQe;have p1:=N.p1;have p2:=N.p2;have s1:=N.s1;have s2:=N.s2;rw[if_pos (show Z.EqN 0 (Z.len ([]:List LvlT))from rfl)]
 refine zQn (fun(s:List LvlT×(Int×Int))=>∃n z:Int,(1≤n∧n≤64∧0≤z∧z≤32)∧s.2=(n,z)∧s.1++(LV c n z).map (lvlS c)=allS c) (fun s=>s.2.1.toNat) ?_ ⟨c.1,c.2.1,⟨p1,p2,by omega,s2⟩,rfl,rfl⟩ (by show c.1.toNat<_;omega)
 rintro⟨acc,sn⟩ k ⟨n,z,⟨n1,n2,z1,z2⟩,rfl,hT⟩ hk;replace hT:acc++(LV c n z).map (lvlS c)=allS c:=hT;have hlen:acc.length≤64:=by
  have h1:=congrArg List.length hT;have h2:=zYw c;rw[Qz]at h1;omega
 have hLV:=uWz N n1 n2 (s:=z);obtain⟨w1,w2,w3⟩:=wWh N z1 z2;simp only;rw[w1,Z.zZd,w2,Z.zZd,w3,Z.zZd,xXa n n2,Z.bind_some,if_pos (le1 _),if_neg (small (by omega) _ (by omega)),if_pos True.intro,seg1,Z.uXs,Z.zZd]
 by_cases ht:n≤c.2.2.2.2.2.2.2.2.1
 ·have e2:Z.ile n c.2.2.2.2.2.2.2.2.1=true:=by simp[Z.ile,ht]
  rw[hLV,if_pos ht]at hT;rw[e2,cond_true,←hT];rfl
 ·obtain⟨g1,g2,g3,g4,g5,g6,g7⟩:=xYi N n1 n2 ht
  have e2:Z.ile n c.2.2.2.2.2.2.2.2.1=false:=by simp[Z.ile];omega
  rw[hLV,if_neg ht]at hT;rw[e2,cond_false,g1,Z.zZd,g2,Z.zZd,if_neg g3,g4,Z.zZd,g5,Z.zZd,if_pos True.intro];refine hk (_,(_,_)) ⟨nxt c.2.2.1 n,4*c.2.2.1,⟨g6,by omega,by have:=N.f1;omega,by have:=N.f2;omega⟩,rfl, ?_⟩ (by show(nxt c.2.2.1 n).toNat<n.toNat;omega)
  rw[←hT];simp[lvlS]
theorem xKf(c:CfgT):yKy c=some (mayB c):=by
 unfold yKy;rw[eta,yKx,Z.bind_some];unfold mayB;cases hn:xY6 c with
 |false=>rfl
 |true=>
  rw[cond_true,zY4 (wKs hn),Z.bind_some];have:(allS c).length=(LV c c.1 c.2.1).length:=by simp[allS]
  simp only[Z.vZ3,Z.ile,Z.ofN_eq,Z.len_eq,this,Jz];congr 1;rw[decide_eq_decide];omega
theorem zJ6{c:CfgT}(h:mayB c=true):Nums c∧(LV c c.1 c.2.1).length≤4:=by
 simp only[mayB,Qc,decide_eq_true_eq]at h;exact⟨wKs h.1,h.2⟩
def rp(F:Int):Nat→Int→List Int
 |0,_=>[]
 |1,b=>[b]
 |m+2,b=>(b % F)::rp F (m+1) (b/F)
end Go.Proofs.Ytghnechjgchajaa
