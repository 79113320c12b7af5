/- StashDoes answers true. -/
import Derived.Test.YtampmlalpifkoaaStashI
import Derived.Test.YtampmlalpifkoaaM6
namespace Go.Proofs.Ytampmlalpifkoaa
open Go.Eng
set_option linter.unusedVariables false
set_option linter.unusedSimpArgs false
theorem vWn:∀(s:List Blk) (b:Blk),(putR s b).length≤s.length+1
 |[],b=>Qe _
 |x::l,b=>by
  have:=vWn l b;simp only[putR];split
  ·simp only[Jc];omega
  ·split<;>simp only[Jc]<;>omega
theorem vXx:∀(s:List Blk) (id:Int),(xJ2 s id).length≤s.length
 |[],id=>Qe _
 |x::l,id=>by
  have:=vXx l id;simp only[xJ2];split
  ·simp only[Jc];omega
  ·split<;>simp only[Jc]<;>omega
theorem vY4(B S H W:Int):∀(more s o:List Blk),addR B S H W s more=some o→o.length≤s.length+more.length
 |[],s,o,h=>by simp only[addR,Qa]at h;subst h;exact Qe _
 | b::more,s,o,h=>by
  simp only[addR]at h;split at h
  ·cases h
  ·split at h
   ·have h1:=vY4 B S H W more (putR s b) o h
    have h2:=vWn s b;simp only[Jc];omega
   ·cases h
theorem pS_le(B S H W:Int)(s:List Blk)(b:Blk):(pS B S H W s b).1.length≤s.length+1:=by
 unfold pS;split
 ·split
  ·exact vWn s b
  ·exact Jd _
 ·exact Jd _
theorem dS_le(B S H W:Int)(s:List Blk)(id:Int):(dS B S H W s id).1.length≤s.length:=by
 unfold dS;split
 ·split
  ·exact vXx s id
  ·exact Jd _
 ·exact Jd _
theorem aS_le(B S H W:Int)(s more:List Blk):(aS B S H W s more).1.length≤s.length+more.length:=by
 unfold aS;split
 ·cases h:addR B S H W s more with
  |some o=>exact vY4 B S H W more s o h
  |none=>exact Jd _
 ·exact Jd _
theorem vJm(a:Int):Z.zQu true (Z.ieq a a) false=true:=by simp[Z.zQu,Z.ieq]
theorem beq_t(a:Bool):Z.zQu true (Z.beq a a) false=true:=by cases a<;>rfl
theorem vYw{s:List Blk}{n:Int}(h:grtS s n=false):(s.length:Int)≤n:=by
 unfold grtS at h;rw[Bool.or_eq_false_iff]at h;have:=of_decide_eq_false h.1;omega
theorem xKo(B S H W id:Int)(s more:List Blk)(b:Blk)(hd:∀x∈s,x.2.2.1.length≤2000000)(hm:∀x∈more,x.2.2.1.length≤2000000):zKr ((B,(S,(H,(W,())))),(s,(b,(id,more))))=some true:=by
 unfold zKr;dsimp only;refine wJa (fun j=>j=true∨(j=false∧s.length≤40∧more.length≤20)) (fun j hj=>?_) (fun k hk=>?_)
 ·rcases hj with rfl|⟨rfl,hl,hml⟩
  ·exact zQq rfl rfl
  refine zQs rfl ?_;refine zQh (yK9 s hd (by omega)) (zQh (yK9 more hm (by omega)) ?_)
  refine zQh (xQt B S H W s id (by omega)) (zQh (vXq B S H W s id (by omega)) ?_)
  obtain⟨Q1,P1,d1,e1,r1⟩:=uQ7 B S H W s b (by omega)
  refine zQh e1 (zQh (vKw B S H W s b (by omega)) ?_)
  obtain⟨Q2,P2,d2,e2,r2⟩:=vJv B S H W s id (by omega)
  refine zQh e2 (zQh (vXz B S H W s id (by omega)) ?_)
  obtain⟨Q3,P3,d3,e3,r3⟩:=uXz B S H W s more (by omega)
  refine zQh e3 (zQh (vYd B S H W s more (by omega)) ?_)
  obtain⟨Q4,P4,d4,e4,r4⟩:=vKi s (by omega) hd
  refine zQh e4 ?_;have l1:=pS_le B S H W s b;have l2:=dS_le B S H W s id;have l3:=aS_le B S H W s more;generalize pS B S H W s b=p at *;generalize dS B S H W s id=q at *
  generalize aS B S H W s more=a at *;generalize fndS B S H W s id=f at *;clear e1 e2 e3 e4;dsimp only;refine wJa (fun j=>j=true) (fun j1 hj1=>?_) (fun k hk=>?_)
  ·refine wJa (fun j=>j=true) (fun j2 hj2=> ?_) (fun k hk=> ?_)
   ·subst hj1
    subst hj2;refine yY2 r1 (by omega) (fun _=>?_)
    refine yY2 r2 (by omega) (fun _=>?_)
    refine yY2 r3 (by omega) (fun _=>?_)
    refine yY2 r4 (by omega) (fun _=>?_)
    refine wJa (fun j=>j=true) (fun j hj=>by rw[hj]) (fun k hk=>?_)
    refine zQq rfl (zQq rfl ?_);refine zQh (zKd s (by omega)) (zQq rfl ?_)
    exact zQh (zKd more (by omega)) (hk _ rfl)
   ·refine xKs r3 ?_
    refine zQh (zKd a.1 (by omega)) (zQq rfl ?_)
    refine zQq (vJm _) ?_;refine zQh (zWi B S H W s (by omega)) (zQh (yQn B S H W s (by omega)) ?_)
    refine zQq (vJm _) ?_;refine zQh (yWn s more (by omega)) (zQh (yKh s more (by omega)) ?_)
    refine zQq (beq_t _) ?_;refine zQh (yWn s s (by omega)) ?_
    rw[xQy];refine zQq rfl ?_;refine xKs r4 ?_;exact zQh (zKd s (by omega)) (hk _ rfl)
  ·refine zQh (xY1 f.1) (zQq rfl ?_)
   refine zQq (beq_t _) ?_;refine xKs r1 ?_;refine zQh (zKd p.1 (by omega)) (zQq rfl ?_)
   refine zQq (vJm _) ?_;refine xKs r2 ?_;refine zQh (zKd q.1 (by omega)) (zQq rfl ?_)
   exact hk _ (vJm _)
 ·refine zQh (yWf s 40) ?_
  cases hg:grtS s 40 with
  |true=>exact zQq rfl (hk _ (.inl rfl))
  | false=>
   refine zQs rfl ?_;refine zQh (yWf more 20) ?_;cases hg2:grtS more 20 with
   |true=>exact zQq rfl (hk _ (.inl rfl))
   |false=>
    refine zQs rfl ?_;have h1:=vYw hg;have h2:=vYw hg2;refine hk _ ?_;cases h:Z.zQu false true (Z.igt (Z.ofN (Z.len b.2.2.1)) 1000)with
    |true=>exact .inl rfl
    |false=>exact .inr ⟨rfl,by omega,by omega⟩
theorem vKk{l:List Nat}{n:Nat}(h:n∈l):n≤l.sum:=by
 induction l with
 |nil=>cases h
 |cons x l ih=>
  rcases Jm.1 h with rfl|h
  ·simp
  ·have:=ih h;simp only[List.sum_cons];omega
theorem sizB(d:List Int):siz (.list (.int .u8)) d=d.length+1:=by
 have key:∀d:List Int,(List.map (siz (.int .u8)) d).sum=d.length:=by
  intro d;induction d with
  |nil=>rfl
  |cons x d ih=>
   rw[Qg,List.sum_cons,ih,Jc];show 1+d.length=d.length+1;omega
 show(List.map (siz (.int .u8)) d).sum+1=d.length+1;rw[key]
abbrev cBl:C:=.pair (.int .i64) (.pair (.int .i64) (.pair (.list (.int .u8)) .unit))
theorem sizBl(x:Blk):x.2.2.1.length+2≤siz cBl x:=by
 have:=sizB x.2.2.1;simp only[siz]at this⊢;omega
theorem vYj{l:List Blk}{n:Nat}(h:siz (.list cBl) l≤n):∀x∈l,x.2.2.1.length≤n:=by
 have h3:siz (.list cBl) l=(l.map (siz cBl)).sum+1:=by simp only[siz]
 intro x hx;have h1:=sizBl x;have h2:=vKk (List.mem_map_of_mem (f:=siz cBl) hx);omega
theorem yZd(d:Els zW0.args)(hf:Fits zW0.args d)(hz:sizs zW0.args d≤1048576):zKr d=some true:=by
 obtain⟨⟨B,S,H,W,_⟩,s,b,id,more⟩:=d;have h1:siz (.list cBl) s≤1048576:=by
  simp only[sizs,zW0]at hz;unfold cBl;omega
 have h2:siz (.list cBl) more≤1048576:=by
  simp only[sizs,zW0]at hz;unfold cBl;omega
 exact xKo B S H W id s more b (fun x hx=>by have:=vYj h1 x hx;omega) fun x hx=>by have:=vYj h2 x hx;omega
end Go.Proofs.Ytampmlalpifkoaa
