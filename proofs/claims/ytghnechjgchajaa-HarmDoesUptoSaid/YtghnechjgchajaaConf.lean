/- Configs: whether they may be, and the levels that follow from them. -/
import Derived.Test.YtghnechjgchajaaGeo
import Derived.Test.YtghnechjgchajaaConfS
namespace Go.Proofs.Ytghnechjgchajaa
open Go.Eng
set_option linter.unusedVariables false
set_option linter.unusedSimpArgs false
abbrev LvlT:=Int×(Int×(Int×(Int×Unit)))
def okB(b:Int×(Int×(Int×Unit))):Bool:=decide (b.2.1≤b.1)&&decide (b.1≤b.2.2.1)
noncomputable def xY6(c:CfgT):Bool:=(bndS c).all okB
theorem vWv(b:Int×(Int×(Int×Unit))):zXq (b.1,b.2.1,b.2.2.1,())=some (okB b):=by
 unfold zXq okB;by_cases h:b.2.1≤b.1<;>simp[Z.ile,h]
theorem uJf(v lo hi:Int):zZt (v,lo,hi)=some (okB (v,lo,hi,())):=by
 unfold zZt okB;by_cases h:lo≤v<;>simp[Z.ige,Z.ile,h]
theorem yKx(c:CfgT):zJm c=some (xY6 c):=by
 unfold zJm xY6 bndS;simp only[uJf,Z.bind_some,Z.vZ3,Jr,List.all_nil,K1];cases okB (c.1,1,64,())with
 |false=>simp only[cond_false,Kz]
 | true =>
  simp only[cond_true,Jz];cases okB (c.2.1,1,32,())with
  |false=>simp only[cond_false,Kz]
  | true=>
   simp only[cond_true,Jz];cases okB (c.2.2.1,2,8,())with
   |false=>simp only[cond_false,Kz]
   | true=>
    simp only[cond_true,Jz];cases okB (c.2.2.2.1,1,4,())with
    |false=>simp only[cond_false,Kz]
    | true=>
     simp only[cond_true,Jz];cases okB (c.2.2.2.2.1,1,64,())with
     |false=>simp only[cond_false,Kz]
     | true=>
      simp only[cond_true,Jz];cases okB (c.2.2.2.2.2.1,1,8,())with
      |false=>simp only[cond_false,Kz]
      | true=>
       simp only[cond_true,Jz];cases okB (c.2.2.2.2.2.2.1,1,4,())with
       |false=>simp only[cond_false,Kz]
       |true=>
        simp only[cond_true,Jz];cases okB (c.2.2.2.2.2.2.2.1,1,16,())with
        |false=>simp only[cond_false,Kz]
        |true=>simp only[cond_true,Jz]
structure Nums (c:CfgT):Prop where
 p1:1≤c.1
 p2:c.1≤64
 s1:1≤c.2.1
 s2:c.2.1≤32
 f1:2≤c.2.2.1
 f2:c.2.2.1≤8
 l1:1≤c.2.2.2.1
 l2:c.2.2.2.1≤4
 t1:1≤c.2.2.2.2.2.2.2.2.1
 t2:c.2.2.2.2.2.2.2.2.1≤16
theorem wKs{c:CfgT}(h:xY6 c=true):Nums c:=by
 simp only[xY6,bndS,okB,Jr,List.all_nil,Qc,decide_eq_true_eq,K1]at h;obtain⟨h1,h2,h3,h4,h5,h6,h7,h8,h9⟩:=h;exact⟨h1.1,h1.2,h2.1,h2.2,h3.1,h3.2,h4.1,h4.2,h9.1,h9.2⟩
def wK3(n:Int):Int:=if n≤2 then 1 else if n≤4 then 2 else if n≤8 then 3 else if n≤16 then 4 else if n≤32 then 5 else 6
theorem vK1{n:Int}(hn:n≤64){i:Nat}(h1:1≤i)(h6:i≤6)(hlo:i=1∨(2:Int)^(i-1)<n)(hhi:n≤2^i):wK3 n=i:=by
 have:i=1∨i=2∨i=3∨i=4∨i=5∨i=6:=by omega
 unfold wK3;rcases this with rfl|rfl|rfl|rfl|rfl|rfl<;>simp at hlo hhi<;>(repeat' split)<;>omega
theorem pow_i{i:Nat}(h6:i≤6)(h1:1≤i):(1:Int)≤2^i∧(2:Int)^i≤64:=by
 have:i=1∨i=2∨i=3∨i=4∨i=5∨i=6:=by omega
 rcases this with rfl|rfl|rfl|rfl|rfl|rfl<;>decide
theorem xKs(n:Int)(hn:n≤64):yJx n=some (wK3 n):=by
 unfold yJx;refine zQn (fun(s:Int)=>∃i:Nat,s=(i:Int)∧1≤i∧i≤6∧(i=1∨(2:Int)^(i-1)<n)) (fun s=>7-s.toNat) ?_ ⟨1,rfl,by omega,by omega, .inl rfl⟩ (by show 7-(1:Int).toNat<_;decide)
 rintro si k ⟨i,rfl,h1,h6,hlo⟩ hk;have hm:may (i:Int)=true:=yYl.2 ⟨by omega,by omega⟩
 obtain⟨q1,q2⟩:=pow_i h6 h1;rw[xZd,hm,Z.bind_some];simp only[if_true,Int.toNat_natCast];have e0:Z.ine 0 0=false:=rfl;rw[e0,cond_false,Z.uKq];by_cases hge:n≤2^i
 ·have e1:Z.ige ((2:Int)^i) n=true:=by simp only[Z.ige,decide_eq_true_eq];exact hge
  rw[e1,cond_true,vK1 hn h1 h6 hlo hge]
 ·have e1:Z.ige ((2:Int)^i) n=false:=by simp only[Z.ige,decide_eq_false_iff_not];omega
  have hi6:i≠6:=by rintro rfl;simp at hge;omega
  rw[e1,cond_false,Z.yX5 (by omega)]
  exact hk ((i+1:Nat):Int) ⟨i+1,rfl,by omega,by omega, .inr (by simp;omega)⟩ (by show 7-((i+1:Nat):Int).toNat<7-(i:Int).toNat;omega)
theorem xXa(n:Int)(hn:n≤64):yZc n=some (wK3 n):=by
 unfold yZc;refine zQn (fun(s:Int)=>∃i:Nat,s=(i:Int)∧1≤i∧i≤6∧(i=1∨(2:Int)^(i-1)<n)) (fun s=>7-s.toNat) ?_ ⟨1,rfl,by omega,by omega, .inl rfl⟩ (by show 7-(1:Int).toNat<_;decide)
 rintro si k ⟨i,rfl,h1,h6,hlo⟩ hk;obtain⟨q1,q2⟩:=pow_i h6 h1;rw[zJz (i:Int) (by omega) (by omega),Z.bind_some]
 simp only[Int.toNat_natCast];by_cases hge:n≤2^i
 ·have e1:Z.ilt ((2:Int)^i) n=false:=by simp only[Z.ilt,decide_eq_false_iff_not];omega
  rw[e1,cond_false,vK1 hn h1 h6 hlo hge]
 ·have e1:Z.ilt ((2:Int)^i) n=true:=by simp only[Z.ilt,decide_eq_true_eq];omega
  have hi6:i≠6:=by rintro rfl;simp at hge;omega
  rw[e1,cond_true,Z.zZd,Z.yX5 (by omega)]
  exact hk ((i+1:Nat):Int) ⟨i+1,rfl,by omega,by omega, .inr (by simp;omega)⟩ (by show 7-((i+1:Nat):Int).toNat<7-(i:Int).toNat;omega)
def lvlS(c:CfgT)(p:Int×Int):LvlT:=(p.1,p.2,wK3 p.1,c.2.2.2.1*(8+p.2)+64,())
theorem mul_b{a b:Int}(ha:1≤a)(ha4:a≤4)(hb:8≤b)(hb40:b≤40):8≤a*b∧a*b≤160:=by
 have:a=1∨a=2∨a=3∨a=4:=by omega
 rcases this with rfl|rfl|rfl|rfl<;>omega
theorem wWh{c:CfgT}(N:Nums c){s:Int}(h0:0≤s)(h1:s≤32):Z.wrap .i64 (Z.add 8 s)=8+s∧Z.wrap .i64 (Z.mul c.2.2.2.1 (8+s))=c.2.2.2.1*(8+s)∧Z.wrap .i64 (Z.add (c.2.2.2.1*(8+s)) 64)=c.2.2.2.1*(8+s)+64:=by
 obtain⟨m1,m2⟩:=mul_b N.l1 N.l2 (show 8≤8+s by omega) (by omega)
 refine⟨?_, ?_, ?_⟩
 ·rw[Z.wrap_i64]<;>simp only[Z.add_eq]<;>omega
 ·rw[Z.wrap_i64]<;>simp only[Z.mul_eq]<;>omega
 ·rw[Z.wrap_i64]<;>simp only[Z.add_eq]<;>omega
theorem zKe{c:CfgT}(N:Nums c){n s:Int}(hn:n≤64)(h0:0≤s)(h1:s≤32):zZj (c,n,s)=some (lvlS c (n,s)):=by
 unfold zZj lvlS;obtain⟨w1,w2,w3⟩:=wWh N h0 h1;simp only[w1,w2,w3,Z.zZd];rw[xKs n hn,Z.bind_some]
def nxt(F n:Int):Int:=(n+F-1)/F
theorem wYx{F n:Int}(h2:2≤F)(h8:F≤8)(hn:2≤n):1≤nxt F n∧nxt F n<n:=by
 have:F=2∨F=3∨F=4∨F=5∨F=6∨F=7∨F=8:=by omega
 unfold nxt;rcases this with rfl|rfl|rfl|rfl|rfl|rfl|rfl<;>omega
def lv(T F:Int):Nat→Int→Int→List (Int×Int)
 |0,_,_=>[]
 |k+1,n,s=>(n,s)::(if n≤T then []else lv T F k (nxt F n) (4*F))
theorem uK8(T F:Int)(k:Nat)(n s:Int):lv T F (k+1) n s=(n,s)::(if n≤T then []else lv T F k (nxt F n) (4*F)):=rfl
theorem vKm{T F:Int}(hT:1≤T)(h2:2≤F)(h8:F≤8):∀(k k':Nat) (n s:Int),1≤n→n.toNat≤k→n.toNat≤k'→lv T F k n s=lv T F k' n s
 |0,_,n,s,h,hk,_=>by omega
 |_+1,0,n,s,h,_,hk=>by omega
 | k+1,k'+1,n,s,h,hk,hk'=>by
  simp only[lv];by_cases ht:n≤T
  ·simp[ht]
  ·obtain⟨a,b⟩:=wYx h2 h8 (show 2≤n by omega)
   rw[if_neg ht,if_neg ht,vKm hT h2 h8 k k' (nxt F n) (4*F) a (by omega) (by omega)]
def LV(c:CfgT)(n s:Int):List (Int×Int):=lv c.2.2.2.2.2.2.2.2.1 c.2.2.1 64 n s
theorem uWz{c:CfgT}(N:Nums c){n s:Int}(h1:1≤n)(h64:n≤64):LV c n s=(n,s)::(if n≤c.2.2.2.2.2.2.2.2.1 then []else LV c (nxt c.2.2.1 n) (4*c.2.2.1)):=by
 have e:LV c n s=(n,s)::(if n≤c.2.2.2.2.2.2.2.2.1 then []else lv c.2.2.2.2.2.2.2.2.1 c.2.2.1 63 (nxt c.2.2.1 n) (4*c.2.2.1)):=uK8 _ _ 63 n s
 rw[e];by_cases ht:n≤c.2.2.2.2.2.2.2.2.1
 ·rw[if_pos ht,if_pos ht]
 ·have:=N.t1
  obtain⟨a,b⟩:=wYx N.f1 N.f2 (show 2≤n by omega)
  rw[if_neg ht,if_neg ht];unfold LV;rw[vKm N.t1 N.f1 N.f2 63 64 _ _ a (by omega) (by omega)]
theorem xYi{c:CfgT}(N:Nums c){n:Int}(h1:1≤n)(h64:n≤64)(ht:¬n≤c.2.2.2.2.2.2.2.2.1):
  Z.wrap .i64 (Z.add n c.2.2.1)=n+c.2.2.1∧Z.wrap .i64 (Z.sub (n+c.2.2.1) 1)=n+c.2.2.1-1∧¬Z.IsZ c.2.2.1∧Z.wrap .i64 (Z.tdiv (n+c.2.2.1-1) c.2.2.1)=nxt c.2.2.1 n∧Z.wrap .i64 (Z.mul 4 c.2.2.1)=4*c.2.2.1∧1≤nxt c.2.2.1 n∧nxt c.2.2.1 n<n:=by
 have f1:=N.f1;have f2:=N.f2;have t1:=N.t1;obtain⟨a,b⟩:=wYx f1 f2 (show 2≤n by omega)
 have e:Z.tdiv (n+c.2.2.1-1) c.2.2.1=nxt c.2.2.1 n:=Int.tdiv_eq_ediv_of_nonneg (by omega)
 refine⟨?_, ?_, ?_, ?_, ?_,a,b⟩
 ·rw[Z.wrap_i64]<;>simp only[Z.add_eq]<;>omega
 ·rw[Z.wrap_i64]<;>simp only[Z.sub_eq]<;>omega
 ·show¬(c.2.2.1=0);omega
 ·rw[e,Z.wrap_i64]<;>omega
 ·rw[Z.wrap_i64]<;>simp only[Z.mul_eq]<;>omega
theorem wKz(c:CfgT)(l:LvlT):yWi (c,l.1,l.2.1,l.2.2.1,l.2.2.2.1,())=some (decide (l.1≤c.2.2.2.2.2.2.2.2.1)):=rfl
def atL(c:CfgT)(l:Int×(Int×(Int×Int)))(n s:Int):Prop:=1≤n∧n≤64∧0≤s∧s≤32∧l=((lvlS c (n,s)).1,(lvlS c (n,s)).2.1,(lvlS c (n,s)).2.2.1,(lvlS c (n,s)).2.2.2.1)
noncomputable def mayB(c:CfgT):Bool:=xY6 c&&decide ((LV c c.1 c.2.1).length≤4)
theorem vKl(T F:Int):∀(k:Nat) (n s:Int),(lv T F k n s).length≤k
 |0,_,_=>Qg _
 | k+1,n,s=>by
  simp only[lv,Jk];by_cases h:n≤T
  ·simp[h]
  ·have:=vKl T F k (nxt F n) (4*F)
   rw[if_neg h];omega
theorem eta(c:CfgT):(c.1,c.2.1,c.2.2.1,c.2.2.2.1,c.2.2.2.2.1,c.2.2.2.2.2.1,c.2.2.2.2.2.2.1,c.2.2.2.2.2.2.2.1,c.2.2.2.2.2.2.2.2.1,())=c:=rfl
theorem vJ7(c:CfgT):(bndS c).length=9:=rfl
theorem xZn(c:CfgT):yQr c=some (if mayB c then 0 else 8):=by
 unfold yQr;simp only[eta];have hb:yKl c=some (bndS c):=rfl;rw[hb,Z.bind_some];refine zQn (fun(s:Int)=>∃i:Nat,s=(i:Int)∧i≤9∧∀k,k<i→okB ((bndS c).getD k (0,0,0,()))=true) (fun s=>9-s.toNat) ?_ ⟨0,rfl,by omega,by omega⟩ (by show 9-(0:Int).toNat<_;decide)
 rintro si k ⟨i,rfl,hi,hall⟩ hk;by_cases hlt:i<9
 ·have e1:Z.ilt (i:Int) 9=true:=by simp[Z.ilt];omega
  have c1:Z.In (i:Int) 9:=⟨by omega,by omega⟩
  have g1:Z.get (bndS c) (Z.toN (i:Int)) (0,0,0,())=(bndS c).getD i (0,0,0,()):=rfl;rw[e1,cond_true,if_pos c1,g1,Z.zZd];generalize hb:(bndS c).getD i (0,0,0,())=b
  rw[vWv b,Z.bind_some];cases hok:okB b with
  | false=>
   have hn:xY6 c=false:=by
    rw[Bool.eq_false_iff];intro hx;have h2:=Qq.1 hx b (by
     have hil:i<(bndS c).length:=by rw[vJ7];exact hlt
     have:(bndS c).getD i (0,0,0,())=(bndS c)[i]:=by simp[List.getD,hil]
     rw[←hb,this];exact Qh hil)
    rw[hok]at h2;simp at h2
   have:mayB c=false:=by simp[mayB,hn]
   rw[this];rfl
  |true=>
   have e2:Z.bnot true=false:=rfl;rw[e2,cond_false,Z.zZd,Z.yX5 (by omega)]
   refine hk ((i+1:Nat):Int) ⟨i+1,rfl,hlt,fun r hr=>?_⟩ (by show 9-((i+1:Nat):Int).toNat<9-(i:Int).toNat;omega)
   by_cases hx:r=i
   ·subst hx;rw[hb];exact hok
   ·exact hall r (by omega)
 ·have ei:i=9:=by omega
  subst ei;have e1:Z.ilt ((9:Nat):Int) 9=false:=rfl;have hn:xY6 c=true:=by
   rw[xY6,Qq];intro b hb;obtain⟨i,hi,rfl⟩:=List.mem_iff_getElem.1 hb;have:=hall i (by rw[vJ7]at hi;exact hi)
   simpa[List.getD,hi]using this
  have N:=wKs hn;have hs1:=N.s1;have hmay:mayB c=decide ((LV c c.1 c.2.1).length≤4):=by simp[mayB,hn]
  rw[e1,cond_false,zKe N N.p2 (by omega) N.s2,Z.bind_some,hmay]
  have hll:=vKl c.2.2.2.2.2.2.2.2.1 c.2.2.1 64 c.1 c.2.1;refine zQn (fun(s:(Int×(Int×(Int×Int)))×Int)=>∃(n z:Int) (j:Nat),atL c s.1 n z∧s.2=(j:Int)∧j+(LV c n z).length=(LV c c.1 c.2.1).length) (fun s=>s.1.1.toNat) ?_ ⟨c.1,c.2.1,0,⟨N.p1,N.p2,by omega,N.s2,rfl⟩,rfl,by simp⟩ (by have:=N.p2;show(lvlS c (c.1,c.2.1)).1.toNat<_;show c.1.toNat<_;omega)
  rintro⟨sl,sc⟩ k2 ⟨n,z,j,⟨n1,n2,z1,z2,hl⟩,rfl,hj⟩ hk2;replace hl:sl=_:=hl;subst hl;have hLV:=uWz N n1 n2 (s:=z);have hLL:(LV c c.1 c.2.1).length≤64:=hll;rw[hLV]at hj
  simp only[Jk]at hj;rw[Z.yX5 (by omega),Z.zZd,wKz c (lvlS c (n,z)),Z.bind_some]
  have hl1:(lvlS c (n,z)).1=n:=rfl;rw[hl1];by_cases ht:n≤c.2.2.2.2.2.2.2.2.1
  ·rw[if_pos ht]at hj
   simp only[K0]at hj;have e2:Z.zQi true (Z.bnot (decide (n≤c.2.2.2.2.2.2.2.2.1))) false=false:=by simp[ht]
   rw[e2,cond_false];by_cases h4:(LV c c.1 c.2.1).length≤4
   ·have e3:Z.igt ((j+1:Nat):Int) 4=false:=by simp[Z.igt];omega
    rw[e3,cond_false];simp[h4]
   ·have e3:Z.igt ((j+1:Nat):Int) 4=true:=by simp[Z.igt];omega
    rw[e3,cond_true];simp[h4]
  ·rw[if_neg ht]at hj
   obtain⟨w1,w2,w3,w4,w5,w6,w7⟩:=xYi N n1 n2 ht;have e2:Z.zQi true (Z.bnot (decide (n≤c.2.2.2.2.2.2.2.2.1))) false=true:=by simp[ht]
   rw[e2,cond_true,w1,Z.zZd,w2,Z.zZd,if_neg w3,w4,Z.zZd,w5,Z.zZd,zKe N (by omega) (by have:=N.f1;omega) (by have:=N.f2;omega),Z.bind_some]
   exact hk2 (_,((j+1:Nat):Int)) ⟨nxt c.2.2.1 n,4*c.2.2.1,j+1,⟨w6,by omega,by have:=N.f1;omega,by have:=N.f2;omega,rfl⟩,rfl,by omega⟩ (by show(nxt c.2.2.1 n).toNat<n.toNat;omega)
end Go.Proofs.Ytghnechjgchajaa
