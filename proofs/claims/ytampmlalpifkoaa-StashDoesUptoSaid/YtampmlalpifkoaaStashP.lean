/- Stashes: may one be. -/
import Derived.Test.YtampmlalpifkoaaStep
import Derived.Test.YtampmlalpifkoaaStep2
import Derived.Test.YtampmlalpifkoaaSlotref
namespace Go.Proofs.Ytampmlalpifkoaa
open Go.Eng
set_option linter.unusedVariables false
set_option linter.unusedSimpArgs false
theorem getN{α:Type}(l:List α){i:Nat}(h:i<l.length)(z:α):Z.get l (Z.toN (i:Int)) z=l[i]:=by simp[Z.get,Z.toN,List.getD,h]
theorem ixN{α:Type}{l:List α}{i:Nat}(h:i<l.length)(hb:l.length<9223372036854775808):Z.Ix (i:Int) (Z.len l):=⟨by omega,by simp only[Z.len];omega⟩
theorem zY5{i:Nat}(h:i<9223372036854775807):Z.wrap .i64 (Z.add (i:Int) 1)=((i+1:Nat):Int):=Z.yZ8 (by omega)
def stQ(B S H:Int)(s:List Blk)(i:Nat):Bool:=yZ2 B S H (s.getD i noB).1 (s.getD i noB).2.1 (s.getD i noB).2.2.1&&(decide (i=0)||decide ((s.getD (i-1) noB).1<(s.getD i noB).1))
def stB(B S H:Int)(s:List Blk):Bool:=decide (∀i,i<s.length→stQ B S H s i=true)
theorem zJl{s:List Blk}{i:Nat}(h:i<s.length):s.getD i noB=s[i]:=by simp[List.getD,h]
theorem wKe{B S H:Int}{s:List Blk}{i:Nat}(h:i<s.length)(hq:stQ B S H s i=false):stB B S H s=false:=Qx fun hh=>by rw[hh i h]at hq;cases hq
theorem yYu(B S H W:Int)(s:List Blk)(hl:s.length<9223372036854775808)(h0:(zX5 B S H W).2=0):zXs ((B,(S,(H,(W,())))),s)=some (if stB B S H s=true then 0 else 8):=by
 unfold zXs;dsimp only;refine zQh (zJ6 B S H W) ?_;refine zQs (by rw[h0];rfl) ?_
 refine zWx (fun(d:Int)=>∃i:Nat,d=i∧i≤s.length∧∀j,j<i→stQ B S H s j=true) (fun d=>s.length-d.toNat) ?_ ⟨0,rfl,Jd _,fun _ h=>absurd h (Nat.not_lt_zero _)⟩ (yW3 _ _ (by omega))
 rintro d k ⟨i,rfl,hi,hq⟩ hk;by_cases hlt:i<s.length
 ·refine zQq (Qu (by simp only[Z.ofN,Z.len];omega)) ?_
  refine zQb (ixN hlt (by omega)) (zQi (getN s hlt _) ?_)
  refine zQh (zKk B S H W s[i].1 s[i].2.1 s[i].2.2.1) ?_;have hi1:Z.wrap .i64 (Z.add (i:Int) 1)=((i+1:Nat):Int):=Z.yZ8 (by omega)
  have next:stQ B S H s i=true→k ((i+1:Nat):Int)=some (if stB B S H s=true then 0 else 8):=fun hs=>by
   refine hk _ ⟨i+1,rfl,hlt,fun j hj=>?_⟩ (by show s.length-(((i+1:Nat):Int)).toNat<s.length-((i:Int)).toNat;omega)
   by_cases e:j=i
   ·subst e;exact hs
   ·exact hq j (by omega)
  unfold zZi;rw[Qf h0];cases hb:yZ2 B S H s[i].1 s[i].2.1 s[i].2.2.1 with
  |false=>
   refine zQq rfl ?_;rw[wKe hlt (by unfold stQ;rw[zJl hlt,hb];rfl)]
   rfl
  | true=>
   refine zQs rfl ?_;by_cases h00:i=0
   ·subst h00
    refine zQs (by rfl) ?_
    refine zQi hi1 (next ?_)
    unfold stQ;rw[zJl hlt,hb];rfl
   ·refine zQq (Qu (by omega)) ?_
    refine zQi (y:=((i-1:Nat):Int)) ((yYs (x:=Z.sub (i:Int) 1) (by simp only[Z.sub];omega)).trans (by simp only[Z.sub];omega)) ?_
    have hp:i-1<s.length:=by omega
    refine zQb (ixN hp (by omega)) (zQi (getN s hp _) ?_)
    by_cases hle:s[i-1].1<s[i].1
    ·refine zQs (by simp[Z.zQu,Z.ige];omega) ?_
     refine zQi hi1 (next ?_)
     unfold stQ;rw[zJl hlt,zJl hp,hb,Qu hle];simp
    ·refine zQq (by simp[Z.zQu,Z.ige];omega) ?_
     rw[wKe hlt (by unfold stQ;rw[zJl hlt,zJl hp,Qx hle];simp[h00])]
     rfl
 ·refine zQs (Qx (by simp only[Z.ofN,Z.len];omega)) ?_
  have:stB B S H s=true:=Qu fun j hj=>hq j (by omega)
  rw[this];rfl
def grtN(l:List Blk):Nat:=((l.take 200).map fun x=>min x.2.2.1.length 1000).sum
def grtS(l:List Blk)(most:Int):Bool:=decide ((l.length:Int)>most)||decide (5000<grtN l)
theorem yWf(l:List Blk)(most:Int):zJ9 (l,most)=some (grtS l most):=by
 unfold zJ9;dsimp only;have hend:∀(n:Nat),n=grtN l→(bif (Z.igt (Z.ofN (Z.len l)) most)then some true else some (Z.zQu false true (Z.igt (n:Int) 5000)))=some (grtS l most):=fun n hn=>by
  subst hn;unfold grtS;by_cases h:(l.length:Int)>most
  ·rw[show Z.igt (Z.ofN (Z.len l)) most=true from Qu h,Qu h];rfl
  ·rw[show Z.igt (Z.ofN (Z.len l)) most=false from Qx h,Qx h,cond_false,Wr,Z.uWe]
   congr 1;by_cases h2:5000<grtN l
   ·rw[Qu h2];exact Qu (by omega)
   ·rw[Qx h2];exact Qx (by omega)
 refine zWx (fun(s:Int×Int)=>∃i n:Nat,s=((n:Int),(i:Int))∧i≤200∧i≤l.length∧n=((l.take i).map fun x=>min x.2.2.1.length 1000).sum∧n≤1000*i) (fun s=>200-s.2.toNat) ?_ ⟨0,0,rfl,by omega,by omega,rfl,by omega⟩ (yW3 _ _ (by omega))
 rintro s k ⟨i,n,rfl,hi,hil,hn,hn2⟩ hk;dsimp only;by_cases h1:i<l.length
 ·refine zQq (Qu (by simp only[Z.ofN,Z.len];omega)) ?_
  by_cases h2:i<200
  ·refine zQq (by simp[Z.zQu,Z.ilt];omega) ?_
   refine zQb ⟨by omega,by simp only[Z.len];omega⟩ ?_
   refine zQi (getN l h1 _) ?_;have hu:Z.imax false (Z.ofN (Z.len l[i].2.2.1)) 1000=((min l[i].2.2.1.length 1000:Nat):Int):=by
    simp only[Z.imax,Z.ofN,Z.len,Jv,if_false];split<;>omega
   rw[hu];have hle:min l[i].2.2.1.length 1000≤1000:=Nat.min_le_right _ _;have hsum:((l.take (i+1)).map fun x=>min x.2.2.1.length 1000).sum=n+min l[i].2.2.1.length 1000:=by
    rw[K0 h1,Qw,List.sum_append,←hn];simp
   generalize min l[i].2.2.1.length 1000=u at *;refine zQi (y:=((n+u:Nat):Int)) (by rw[yYs]<;>simp only[Z.add]<;>omega) ?_
   refine zQi (y:=((i+1:Nat):Int)) (Z.yZ8 (by omega)) ?_
   exact hk _ ⟨i+1,n+u,rfl,h2,h1,hsum.symm,by omega⟩ (by show 200-(((i+1:Nat):Int)).toNat<200-((i:Int)).toNat;omega)
  ·refine zQs (by simp[Z.zQu,Z.ilt];omega) (hend n ?_)
   rw[hn,grtN,show i=200 by omega]
 ·refine zQs (Qx (by simp only[Z.ofN,Z.len];omega)) (hend n ?_)
  rw[hn,grtN,Q9 (by omega),Q9 (by omega)]
def ckS(B S H W:Int)(s:List Blk):Int:=if(zX5 B S H W).2=0 then(if stB B S H s=true then 0 else 8)else 8
theorem zWi(B S H W:Int)(s:List Blk)(hl:s.length<9223372036854775808):zXs ((B,(S,(H,(W,())))),s)=some (ckS B S H W s):=by
 by_cases h0:(zX5 B S H W).2=0
 ·rw[yYu B S H W s hl h0,ckS,Qf h0]
 ·have h8:(zX5 B S H W).2=8:=by rw[(xQv B S H W).resolve_left h0]
  unfold zXs;dsimp only;refine zQh (zJ6 B S H W) ?_;refine zQq (by rw[h8];rfl) ?_
  rw[h8,ckS,Qi h0]
theorem zJ5{B S H:Int}{s:List Blk}:stB B S H s=true↔(∀x∈s,yZ2 B S H x.1 x.2.1 x.2.2.1=true)∧s.Pairwise (fun x y=>x.1<y.1):=by
 constructor
 ·intro h
  have hq:=K9 h;refine⟨fun x hx=>?_, ?_⟩
  ·obtain⟨i,hi,rfl⟩:=List.getElem_of_mem hx
   have:=hq i hi;unfold stQ at this;rw[zJl hi,Qc]at this;exact this.1
  ·rw[List.pairwise_iff_getElem]
   have step:∀k (hk:k+1<s.length),s[k].1<s[k+1].1:=by
    intro k hk;have:=hq (k+1) hk;unfold stQ at this;rw[zJl hk,Qc,Kp,decide_eq_true_eq,decide_eq_true_eq]at this;rcases this.2 with h|h
    ·omega
    ·rw[Nat.add_sub_cancel,zJl (by omega)]at h;exact h
   have gen:∀d i (hi:i<s.length) (hj:i+(d+1)<s.length),s[i].1<s[i+(d+1)].1:=by
    intro d;induction d with
    |zero=>intro i hi hj;exact step i hj
    |succ d ih=>
     intro i hi hj;have a:=ih i hi (by omega)
     have b:=step (i+(d+1)) (by omega)
     have e:i+(d+1)+1=i+(d+1+1):=by omega
     simp only[e]at b;omega
   intro i j hi hj hij;have e:j=i+((j-i-1)+1):=by omega
   have:=gen (j-i-1) i hi (by omega)
   simpa only[←e]using this
 ·rintro⟨h1,h2⟩
  refine Qu fun i hi=>?_
  unfold stQ;rw[zJl hi,h1 _ (Ka hi),K5];by_cases h0:i=0
  ·simp[h0]
  ·rw[List.pairwise_iff_getElem]at h2
   have:=h2 (i-1) i (by omega) hi (by omega)
   rw[zJl (by omega:i-1<s.length),Qu this]
   simp
def lbN:List Blk→Int→Nat
 |[],_=>0
 |x::l,id=>if x.1<id then lbN l id+1 else 0
theorem xZs:∀(s:List Blk) (id:Int),lbN s id≤s.length
 |[],_=>Qe _
 |x::l,id=>by
  have:=xZs l id;simp only[lbN,Jc];split<;>omega
theorem vXa:∀(s:List Blk) (id:Int) (j:Nat) (h:j<s.length),j<lbN s id→s[j].1<id
 | x::l,id,j,h,hj=>by
  simp only[lbN]at hj;split at hj
  ·rename_i hx
   cases j with
   |zero=>exact hx
   |succ j=>exact vXa l id j (by simpa using h) (by omega)
  ·omega
theorem vXb:∀(s:List Blk) (id:Int),s.Pairwise (fun x y=>x.1<y.1)→∀(j:Nat) (h:j<s.length),lbN s id≤j→id≤s[j].1
 | x::l,id,hp,j,h,hj=>by
  rw[Jz]at hp;simp only[lbN]at hj;split at hj
  ·cases j with
   |zero=>omega
   |succ j=>exact vXb l id hp.2 j (by simpa using h) (by omega)
  ·rename_i hx
   cases j with
   |zero=>show id≤x.1;omega
   |succ j=>
    have hj':j<l.length:=by simpa using h
    have:=hp.1 _ (Ka hj');show id≤l[j].1;omega
def fdS(s:List Blk)(id:Int):Option Blk:=s.find? fun x=>decide (x.1=id)
theorem vXv:∀(s:List Blk) (id:Int),s.Pairwise (fun x y=>x.1<y.1)→fdS s id=(match s[lbN s id]? with|some x=>if x.1=id then some x else none|none=>none)
 |[],id,_=>rfl
 | x::l,id,hp=>by
  rw[Jz]at hp;unfold fdS lbN;by_cases hx:x.1<id
  ·rw[Qf hx,Kd (by simp;omega)]
   have:=vXv l id hp.2;unfold fdS at this;rw[this];simp
  ·rw[Qi hx]
   by_cases he:x.1=id
   ·rw[List.find?_cons_of_pos (by simp[he])]
    simp[he]
   ·rw[Kd (by simp[he])]
    have hno:l.find? (fun y=>decide (y.1=id))=none:=by
     rw[Wj];intro y hy;have:=hp.1 y hy;simp;omega
    rw[hno];simp[he]
def putR:List Blk→Blk→List Blk
 |[],b=>[b]
 |x::l,b=>if x.1<b.1 then x::putR l b else if x.1=b.1 then b::l else b::x::l
def xJ2:List Blk→Int→List Blk
 |[],_=>[]
 |x::l,id=>if x.1<id then x::xJ2 l id else if x.1=id then l else x::l
theorem xKv:∀{s:List Blk} {b y:Blk},y∈putR s b→y=b∨y∈s
 |[],b,y,h=>by simp[putR]at h;exact .inl h
 | x::l,b,y,h=>by
  simp only[putR]at h;split at h
  ·rcases Jm.1 h with rfl|h
   ·exact .inr (Jg ..)
   ·rcases xKv h with h|h
    ·exact .inl h
    ·exact .inr (Qp _ h)
  ·split at h
   ·rcases Jm.1 h with rfl|h
    ·exact .inl rfl
    ·exact .inr (Qp _ h)
   ·rcases Jm.1 h with rfl|h
    ·exact .inl rfl
    ·exact .inr h
theorem yJh:∀{s:List Blk} {b:Blk},s.Pairwise (fun x y=>x.1<y.1)→(putR s b).Pairwise (fun x y=>x.1<y.1)
 |[],b,_=>by simp[putR]
 | x::l,b,h=>by
  rw[Jz]at h;simp only[putR];split
  ·rename_i hx
   rw[Jz];refine⟨fun y hy=>?_,yJh h.2⟩
   rcases xKv hy with rfl|hy
   ·exact hx
   ·exact h.1 y hy
  ·split
   ·rename_i he
    rw[Jz];exact⟨fun y hy=>by have:=h.1 y hy;omega,h.2⟩
   ·rw[Jz,Jz]
    refine⟨fun y hy=>?_,h⟩
    rcases Jm.1 hy with rfl|hy
    ·omega
    ·have:=h.1 y hy;omega
theorem zKy{B S H:Int}{s:List Blk}{b:Blk}(h:stB B S H s=true)(hb:yZ2 B S H b.1 b.2.1 b.2.2.1=true):stB B S H (putR s b)=true:=by
 rw[zJ5]at h⊢;refine⟨fun x hx=>?_,yJh h.2⟩
 rcases xKv hx with rfl|hx
 ·exact hb
 ·exact h.1 x hx
theorem vWm:∀(s:List Blk) (b:Blk),s.Pairwise (fun x y=>x.1<y.1)→(putR s b).length=if(fdS s b.1).isSome=true then s.length else s.length+1
 |[],b,_=>rfl
 | x::l,b,hp=>by
  rw[Jz]at hp;have ih:=vWm l b hp.2;unfold fdS at ih⊢;simp only[putR];split
  ·rename_i hlt
   rw[Kd (by simp;omega),Jc,ih]
   split<;>simp
  ·split
   ·rename_i he
    rw[List.find?_cons_of_pos (by simp[he])]
    simp
   ·rename_i h1 h2
    rw[Kd (by simp[h2])]
    have hno:l.find? (fun y=>decide (y.1=b.1))=none:=by
     rw[Wj];intro y hy;have:=hp.1 y hy;simp;omega
    rw[hno];simp
theorem wKn:∀(s:List Blk) (b:Blk),s.Pairwise (fun x y=>x.1<y.1)→putR s b=if(fdS s b.1).isSome=true then s.set (lbN s b.1) b else s.take (lbN s b.1)++b::s.drop (lbN s b.1)
 |[],b,_=>rfl
 | x::l,b,hp=>by
  rw[Jz]at hp;have ih:=wKn l b hp.2;unfold fdS at ih⊢;simp only[putR,lbN];by_cases hlt:x.1<b.1
  ·rw[Qf hlt,Qf hlt,Kd (by simp;omega),ih]
   split<;>simp
  ·rw[Qi hlt,Qi hlt]
   by_cases he:x.1=b.1
   ·rw[Qf he,List.find?_cons_of_pos (by simp[he])]
    simp
   ·rw[Qi he,Kd (by simp[he])]
    have hno:l.find? (fun y=>decide (y.1=b.1))=none:=by
     rw[Wj];intro y hy;have:=hp.1 y hy;simp;omega
    rw[hno];simp
theorem vXy:∀(s:List Blk) (id:Int),s.Pairwise (fun x y=>x.1<y.1)→(fdS s id).isSome=true→xJ2 s id=s.take (lbN s id)++s.drop (lbN s id+1)
 |[],id,_,h=>by simp[fdS]at h
 | x::l,id,hp,h=>by
  rw[Jz]at hp;unfold fdS at h;simp only[xJ2,lbN];by_cases hlt:x.1<id
  ·rw[Qf hlt,Qf hlt,vXy l id hp.2 (by unfold fdS;rwa [Kd (by simp;omega)]at h)]
   simp
  ·rw[Qi hlt,Qi hlt]
   by_cases he:x.1=id
   ·rw[Qf he];simp
   ·rw[Kd (by simp[he])]at h
    have hno:l.find? (fun y=>decide (y.1=id))=none:=by
     rw[Wj];intro y hy;have:=hp.1 y hy;simp;omega
    rw[hno]at h;cases h
end Go.Proofs.Ytampmlalpifkoaa
