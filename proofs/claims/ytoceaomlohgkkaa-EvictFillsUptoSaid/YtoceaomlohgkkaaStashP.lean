/- Stashes: may one be. -/
import Derived.Test.YtoceaomlohgkkaaStep
import Derived.Test.YtoceaomlohgkkaaStep2
import Derived.Test.YtoceaomlohgkkaaSlotref
namespace Go.Proofs.Ytoceaomlohgkkaa
open Go.Eng
set_option linter.unusedVariables false
set_option linter.unusedSimpArgs false
theorem getN{α:Type}(l:List α){i:Nat}(h:i<l.length)(z:α):Z.get l (Z.toN (i:Int)) z=l[i]:=by simp[Z.get,Z.toN,List.getD,h]
theorem ixN{α:Type}{l:List α}{i:Nat}(h:i<l.length)(hb:l.length<9223372036854775808):Z.Ix (i:Int) (Z.len l):=⟨by omega,by simp only[Z.len];omega⟩
theorem yYm{i:Nat}(h:i<9223372036854775807):Z.wrap .i64 (Z.add (i:Int) 1)=((i+1:Nat):Int):=Z.zZy (by omega)
def stQ(B S H:Int)(s:List Blk)(i:Nat):Bool:=yK0 B S H (s.getD i noB).1 (s.getD i noB).2.1 (s.getD i noB).2.2.1&&(decide (i=0)||decide ((s.getD (i-1) noB).1<(s.getD i noB).1))
def stB(B S H:Int)(s:List Blk):Bool:=decide (∀i,i<s.length→stQ B S H s i=true)
theorem zKx{s:List Blk}{i:Nat}(h:i<s.length):s.getD i noB=s[i]:=by simp[List.getD,h]
theorem wXn{B S H:Int}{s:List Blk}{i:Nat}(h:i<s.length)(hq:stQ B S H s i=false):stB B S H s=false:=decide_eq_false fun hh=>by rw[hh i h]at hq;cases hq
theorem yJs(B S H W:Int)(s:List Blk)(hl:s.length<9223372036854775808)(h0:(zXn B S H W).2=0):zKd ((B,(S,(H,(W,())))),s)=some (if stB B S H s=true then 0 else 8):=by
 unfold zKd;dsimp only;refine zQp (zZz B S H W) ?_;refine zQ0 (by rw[h0];rfl) ?_
 refine zWc (fun(d:Int)=>∃i:Nat,d=i∧i≤s.length∧∀j,j<i→stQ B S H s j=true) (fun d=>s.length-d.toNat) ?_ ⟨0,rfl,Jj _,fun _ h=>absurd h (Nat.not_lt_zero _)⟩ (yJw _ _ (by omega))
 rintro d k ⟨i,rfl,hi,hq⟩ hk;by_cases hlt:i<s.length
 ·refine zQ9 (decide_eq_true (by simp only[Z.ofN,Z.len];omega)) ?_
  refine zQc (ixN hlt (by omega)) (zQo (getN s hlt _) ?_)
  refine zQp (yYs B S H W s[i].1 s[i].2.1 s[i].2.2.1) ?_;have hi1:Z.wrap .i64 (Z.add (i:Int) 1)=((i+1:Nat):Int):=Z.zZy (by omega)
  have next:stQ B S H s i=true→k ((i+1:Nat):Int)=some (if stB B S H s=true then 0 else 8):=fun hs=>by
   refine hk _ ⟨i+1,rfl,hlt,fun j hj=>?_⟩ (by show s.length-(((i+1:Nat):Int)).toNat<s.length-((i:Int)).toNat;omega)
   by_cases e:j=i
   ·subst e;exact hs
   ·exact hq j (by omega)
  unfold vWh;rw[if_pos h0];cases hb:yK0 B S H s[i].1 s[i].2.1 s[i].2.2.1 with
  |false=>
   refine zQ9 rfl ?_;rw[wXn hlt (by unfold stQ;rw[zKx hlt,hb];rfl)]
   rfl
  | true=>
   refine zQ0 rfl ?_;by_cases h00:i=0
   ·subst h00
    refine zQ0 (by rfl) ?_
    refine zQo hi1 (next ?_)
    unfold stQ;rw[zKx hlt,hb];rfl
   ·refine zQ9 (decide_eq_true (by omega)) ?_
    refine zQo (y:=((i-1:Nat):Int)) ((wZ0 (x:=Z.sub (i:Int) 1) (by simp only[Z.sub];omega)).trans (by simp only[Z.sub];omega)) ?_
    have hp:i-1<s.length:=by omega
    refine zQc (ixN hp (by omega)) (zQo (getN s hp _) ?_)
    by_cases hle:s[i-1].1<s[i].1
    ·refine zQ0 (by simp[Z.zQ1,Z.ige];omega) ?_
     refine zQo hi1 (next ?_)
     unfold stQ;rw[zKx hlt,zKx hp,hb,decide_eq_true hle];simp
    ·refine zQ9 (by simp[Z.zQ1,Z.ige];omega) ?_
     rw[wXn hlt (by unfold stQ;rw[zKx hlt,zKx hp,decide_eq_false hle];simp[h00])]
     rfl
 ·refine zQ0 (decide_eq_false (by simp only[Z.ofN,Z.len];omega)) ?_
  have:stB B S H s=true:=decide_eq_true fun j hj=>hq j (by omega)
  rw[this];rfl
def grtN(l:List Blk):Nat:=((l.take 200).map fun x=>min x.2.2.1.length 1000).sum
def grtS(l:List Blk)(most:Int):Bool:=decide ((l.length:Int)>most)||decide (5000<grtN l)
theorem yJu(l:List Blk)(most:Int):zY5 (l,most)=some (grtS l most):=by
 unfold zY5;dsimp only;have hend:∀(n:Nat),n=grtN l→(bif (Z.igt (Z.ofN (Z.len l)) most)then some true else some (Z.zQ1 false true (Z.igt (n:Int) 5000)))=some (grtS l most):=fun n hn=>by
  subst hn;unfold grtS;by_cases h:(l.length:Int)>most
  ·rw[show Z.igt (Z.ofN (Z.len l)) most=true from decide_eq_true h,decide_eq_true h];rfl
  ·rw[show Z.igt (Z.ofN (Z.len l)) most=false from decide_eq_false h,decide_eq_false h,cond_false,Bool.false_or,Z.wYs]
   congr 1;by_cases h2:5000<grtN l
   ·rw[decide_eq_true h2];exact decide_eq_true (by omega)
   ·rw[decide_eq_false h2];exact decide_eq_false (by omega)
 refine zWc (fun(s:Int×Int)=>∃i n:Nat,s=((n:Int),(i:Int))∧i≤200∧i≤l.length∧n=((l.take i).map fun x=>min x.2.2.1.length 1000).sum∧n≤1000*i) (fun s=>200-s.2.toNat) ?_ ⟨0,0,rfl,by omega,by omega,rfl,by omega⟩ (yJw _ _ (by omega))
 rintro s k ⟨i,n,rfl,hi,hil,hn,hn2⟩ hk;dsimp only;by_cases h1:i<l.length
 ·refine zQ9 (decide_eq_true (by simp only[Z.ofN,Z.len];omega)) ?_
  by_cases h2:i<200
  ·refine zQ9 (by simp[Z.zQ1,Z.ilt];omega) ?_
   refine zQc ⟨by omega,by simp only[Z.len];omega⟩ ?_
   refine zQo (getN l h1 _) ?_;have hu:Z.imax false (Z.ofN (Z.len l[i].2.2.1)) 1000=((min l[i].2.2.1.length 1000:Nat):Int):=by
    simp only[Z.imax,Z.ofN,Z.len,Jf,if_false];split<;>omega
   rw[hu];have hle:min l[i].2.2.1.length 1000≤1000:=Nat.min_le_right _ _;have hsum:((l.take (i+1)).map fun x=>min x.2.2.1.length 1000).sum=n+min l[i].2.2.1.length 1000:=by
    rw[Ks h1,Qr,List.sum_append,←hn];simp
   generalize min l[i].2.2.1.length 1000=u at *;refine zQo (y:=((n+u:Nat):Int)) (by rw[wZ0]<;>simp only[Z.add]<;>omega) ?_
   refine zQo (y:=((i+1:Nat):Int)) (Z.zZy (by omega)) ?_
   exact hk _ ⟨i+1,n+u,rfl,h2,h1,hsum.symm,by omega⟩ (by show 200-(((i+1:Nat):Int)).toNat<200-((i:Int)).toNat;omega)
  ·refine zQ0 (by simp[Z.zQ1,Z.ilt];omega) (hend n ?_)
   rw[hn,grtN,show i=200 by omega]
 ·refine zQ0 (decide_eq_false (by simp only[Z.ofN,Z.len];omega)) (hend n ?_)
  rw[hn,grtN,Q8 (by omega),Q8 (by omega)]
def ckS(B S H W:Int)(s:List Blk):Int:=if(zXn B S H W).2=0 then(if stB B S H s=true then 0 else 8)else 8
theorem zJe(B S H W:Int)(s:List Blk)(hl:s.length<9223372036854775808):zKd ((B,(S,(H,(W,())))),s)=some (ckS B S H W s):=by
 by_cases h0:(zXn B S H W).2=0
 ·rw[yJs B S H W s hl h0,ckS,if_pos h0]
 ·have h8:(zXn B S H W).2=8:=by rw[(yYr B S H W).resolve_left h0]
  unfold zKd;dsimp only;refine zQp (zZz B S H W) ?_;refine zQ9 (by rw[h8];rfl) ?_
  rw[h8,ckS,if_neg h0]
theorem wJ1{B S H:Int}{s:List Blk}:stB B S H s=true↔(∀x∈s,yK0 B S H x.1 x.2.1 x.2.2.1=true)∧s.Pairwise (fun x y=>x.1<y.1):=by
 constructor
 ·intro h
  have hq:=of_decide_eq_true h;refine⟨fun x hx=>?_, ?_⟩
  ·obtain⟨i,hi,rfl⟩:=List.getElem_of_mem hx
   have:=hq i hi;unfold stQ at this;rw[zKx hi,Qc]at this;exact this.1
  ·rw[List.pairwise_iff_getElem]
   have step:∀k (hk:k+1<s.length),s[k].1<s[k+1].1:=by
    intro k hk;have:=hq (k+1) hk;unfold stQ at this;rw[zKx hk,Qc,J9,decide_eq_true_eq,decide_eq_true_eq]at this;rcases this.2 with h|h
    ·omega
    ·rw[Nat.add_sub_cancel,zKx (by omega)]at h;exact h
   have gen:∀d i (hi:i<s.length) (hj:i+(d+1)<s.length),s[i].1<s[i+(d+1)].1:=by
    intro d;induction d with
    |zero=>intro i hi hj;exact step i hj
    |succ d ih=>
     intro i hi hj;have a:=ih i hi (by omega)
     have b:=step (i+(d+1)) (by omega)
     have e:i+(d+1)+1=i+(d+1+1):=by omega
     simp only[e]at b;omega
   intro i j hi hj hij;have e:j=i+((j-i-1)+1):=by omega
   have:=gen (j-i-1) i hi (by omega)
   simpa only[←e]using this
 ·rintro⟨h1,h2⟩
  refine decide_eq_true fun i hi=>?_
  unfold stQ;rw[zKx hi,h1 _ (J0 hi),Kf];by_cases h0:i=0
  ·simp[h0]
  ·rw[List.pairwise_iff_getElem]at h2
   have:=h2 (i-1) i (by omega) hi (by omega)
   rw[zKx (by omega:i-1<s.length),decide_eq_true this]
   simp
def putR:List Blk→Blk→List Blk
 |[],b=>[b]
 |x::l,b=>if x.1<b.1 then x::putR l b else if x.1=b.1 then b::l else b::x::l
theorem wQq:∀{s:List Blk} {b y:Blk},y∈putR s b→y=b∨y∈s
 |[],b,y,h=>by simp[putR]at h;exact .inl h
 | x::l,b,y,h=>by
  simp only[putR]at h;split at h
  ·rcases Je.1 h with rfl|h
   ·exact .inr (Jc ..)
   ·rcases wQq h with h|h
    ·exact .inl h
    ·exact .inr (Qt _ h)
  ·split at h
   ·rcases Je.1 h with rfl|h
    ·exact .inl rfl
    ·exact .inr (Qt _ h)
   ·rcases Je.1 h with rfl|h
    ·exact .inl rfl
    ·exact .inr h
theorem xXg:∀{s:List Blk} {b:Blk},s.Pairwise (fun x y=>x.1<y.1)→(putR s b).Pairwise (fun x y=>x.1<y.1)
 |[],b,_=>by simp[putR]
 | x::l,b,h=>by
  rw[List.pairwise_cons]at h;simp only[putR];split
  ·rename_i hx
   rw[List.pairwise_cons];refine⟨fun y hy=>?_,xXg h.2⟩
   rcases wQq hy with rfl|hy
   ·exact hx
   ·exact h.1 y hy
  ·split
   ·rename_i he
    rw[List.pairwise_cons];exact⟨fun y hy=>by have:=h.1 y hy;omega,h.2⟩
   ·rw[List.pairwise_cons,List.pairwise_cons]
    refine⟨fun y hy=>?_,h⟩
    rcases Je.1 hy with rfl|hy
    ·omega
    ·have:=h.1 y hy;omega
theorem zKu{B S H:Int}{s:List Blk}{b:Blk}(h:stB B S H s=true)(hb:yK0 B S H b.1 b.2.1 b.2.2.1=true):stB B S H (putR s b)=true:=by
 rw[wJ1]at h⊢;refine⟨fun x hx=>?_,xXg h.2⟩
 rcases wQq hx with rfl|hx
 ·exact hb
 ·exact h.1 x hx
end Go.Proofs.Ytoceaomlohgkkaa
