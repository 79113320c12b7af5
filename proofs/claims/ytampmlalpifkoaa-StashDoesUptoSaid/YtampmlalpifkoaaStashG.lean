/- Stashes: the document's way. -/
import Derived.Test.YtampmlalpifkoaaStashY
namespace Go.Proofs.Ytampmlalpifkoaa
open Go.Eng
set_option linter.unusedVariables false
set_option linter.unusedSimpArgs false
theorem vK7(B S H W:Int)(s:List Blk)(hl:s.length<9223372036854775807)(h0:wQt B S H=true):yKf ((B,(S,(H,(W,())))),s)=some (stB B S H s):=by
 unfold yKf;dsimp only;refine zWx (fun(d:Int)=>∃i:Nat,d=i∧i≤s.length∧∀j,j<i→stQ B S H s j=true) (fun d=>s.length-d.toNat) ?_ ⟨0,rfl,Jd _,fun _ h=>absurd h (Nat.not_lt_zero _)⟩ (yW3 _ _ (by omega))
 rintro d k ⟨i,rfl,hi,hq⟩ hk;by_cases hlt:i<s.length
 ·refine zQq (Qu (by simp only[Z.ofN,Z.len];omega)) ?_
  refine zQb (ixN hlt (by omega)) (zQi (getN s hlt _) ?_)
  refine zQh (zY0 B S H W s[i].1 s[i].2.1 s[i].2.2.1 h0) ?_;have hi1:Z.wrap .i64 (Z.add (i:Int) 1)=((i+1:Nat):Int):=Z.yZ8 (by omega)
  have next:stQ B S H s i=true→k ((i+1:Nat):Int)=some (stB B S H s):=fun hs=>by
   refine hk _ ⟨i+1,rfl,hlt,fun j hj=>?_⟩ (by show s.length-(((i+1:Nat):Int)).toNat<s.length-((i:Int)).toNat;omega)
   by_cases e:j=i
   ·subst e;exact hs
   ·exact hq j (by omega)
  cases hb:yZ2 B S H s[i].1 s[i].2.1 s[i].2.2.1 with
  |false=>
   refine zQq rfl ?_;rw[wKe hlt (by unfold stQ;rw[zJl hlt,hb];rfl)]
  | true=>
   refine zQs rfl ?_;by_cases h00:i=0
   ·subst h00
    refine zQs (by rfl) ?_
    refine zQi hi1 (next ?_)
    unfold stQ;rw[zJl hlt,hb];rfl
   ·refine zQq (Qu (by omega)) ?_
    have hp:i-1<s.length:=by omega
    refine zQb (ixN hlt (by omega)) (zQi (getN s hlt _) ?_)
    refine zQi (y:=((i-1:Nat):Int)) ((yYs (x:=Z.sub (i:Int) 1) (by simp only[Z.sub];omega)).trans (by simp only[Z.sub];omega)) ?_
    refine zQb (ixN hp (by omega)) (zQi (getN s hp _) ?_)
    by_cases hle:s[i-1].1<s[i].1
    ·refine zQs (by simp[Z.zQu,Z.ile];omega) ?_
     refine zQi hi1 (next ?_)
     unfold stQ;rw[zJl hlt,zJl hp,hb,Qu hle];simp
    ·refine zQq (by simp[Z.zQu,Z.ile];omega) ?_
     rw[wKe hlt (by unfold stQ;rw[zJl hlt,zJl hp,Qx hle];simp[h00])]
 ·refine zQs (Qx (by simp only[Z.ofN,Z.len];omega)) ?_
  have:stB B S H s=true:=Qu fun j hj=>hq j (by omega)
  rw[this]
theorem yQn(B S H W:Int)(s:List Blk)(hl:s.length<9223372036854775807):zZb ((B,(S,(H,(W,())))),s)=some (ckS B S H W s):=by
 unfold zZb;dsimp only;refine zQh (xQ2 B S H W) ?_;unfold ckS;by_cases h0:(zX5 B S H W).2=0
 ·rw[Qf h0]
  refine zQs (by rw[wKg,Qu h0];rfl) ?_
  refine zQh (vK7 B S H W s hl (zY8 h0)) ?_;cases stB B S H s with
  |true=>exact zQs rfl rfl
  |false=>exact zQq rfl rfl
 ·rw[Qi h0]
  exact zQq (by rw[wKg,Qx h0];rfl) rfl
theorem yK9(s:List Blk)(hd:∀x∈s,x.2.2.1.length≤2000000)(hl:s.length≤1000):zZm s=some s:=by
 unfold zZm;refine zQb rfl ?_;refine zWx (fun(d:List Blk×Int)=>∃i:Nat,i≤s.length∧d=(s.take i,(i:Int))) (fun d=>s.length-d.2.toNat) ?_ ⟨0,Jd _,rfl⟩ (yW3 _ _ (by omega))
 rintro d k ⟨i,hi,rfl⟩ hk;dsimp only;by_cases hlt:i<s.length
 ·refine zQq (Qu (by simp only[Z.ofN,Z.len];omega)) ?_
  refine zQb (ixN hlt (by omega)) (zQi (getN s hlt _) ?_)
  refine zQh (zZc s[i].1 s[i].2.1 s[i].2.2.1 (hd _ (Ka hlt))) ?_;refine zQb (Qe _) ?_;refine iteN (fun h=>?_) ?_
  ·have h:2^44<((s.take i).length+1)*41:=h
   rw[Jf]at h;omega
  refine zQb rfl ?_;refine zQi (y:=s.take (i+1)) (by rw[K0 hlt];rfl) ?_
  refine zQi (zY5 (by omega)) (zQb rfl ?_)
  exact hk _ ⟨i+1,hlt,rfl⟩ (by show s.length-(((i+1:Nat):Int)).toNat<s.length-((i:Int)).toNat;omega)
 ·refine zQs (Qx (by simp only[Z.ofN,Z.len];omega)) ?_
  rw[Q9 (by omega)]
def wJz(x y:Blk):Bool:=xY2 x.1 x.2.1 x.2.2.1 y.1 y.2.1 y.2.2.1
def zJ7:List Blk→List Blk→Bool
 |[],[]=>true
 |x::a,y::b=>wJz x y&&zJ7 a b
 |_,_=>false
theorem xQy:∀a:List Blk,zJ7 a a=true
 |[]=>rfl
 |x::a=>by simp[zJ7,wJz,xZe,xQy a]
theorem yJe:∀{a b:List Blk},a.length≠b.length→zJ7 a b=false
 |[],[],h=>absurd rfl h
 |x::a,y::b,h=>by
  simp only[zJ7,yJe (a:=a) (b:=b) (by simpa using h),Bool.and_false]
 |[],_::_,_=>rfl
 |_::_,[],_=>rfl
theorem yKh(a b:List Blk)(ha:a.length<4611686018427387904):zWj (a,b)=some (zJ7 a b):=by
 unfold zWj;dsimp only;by_cases hab:a.length=b.length
 ·refine zQs (by simp[Z.ine,Z.ofN,Z.len,hab]) ?_
  refine zWx (fun(s:Int)=>∃i:Nat,s=i∧i≤a.length∧zJ7 (a.drop i) (b.drop i)=zJ7 a b) (fun s=>a.length-s.toNat) ?_ ⟨0,rfl,Jd _,rfl⟩ (yW3 _ _ (by omega))
  rintro d k ⟨i,rfl,hi,hs⟩ hk;by_cases h1:i<a.length
  ·have h2:i<b.length:=by omega
   rw[Jl h1,Jl h2]at hs;refine zQq (Qu (by simp only[Z.ofN,Z.len];omega)) ?_
   refine zQb ⟨by omega,by simp only[Z.len];omega⟩ ?_
   refine zQi (getN a h1 _) ?_;refine zQb ⟨by omega,by simp only[Z.len];omega⟩ ?_
   refine zQi (getN b h2 _) ?_;generalize a[i]=x at *;generalize b[i]=y at *;obtain⟨x1,x2,x3,_⟩:=x;obtain⟨y1,y2,y3,_⟩:=y;refine zQh (yWp x1 x2 x3 y1 y2 y3) ?_;cases hsm:xY2 x1 x2 x3 y1 y2 y3 with
   |false=>
    refine zQq rfl ?_;rw[←hs];simp[zJ7,wJz,hsm]
   |true=>
    refine zQs rfl ?_;refine zQi (yYs (by simp only[Z.add];omega)) ?_
    refine hk _ ⟨i+1,by simp,h1, ?_⟩ (by show a.length-((i:Int)+1).toNat<a.length-((i:Int)).toNat;omega)
    rw[←hs];simp[zJ7,wJz,hsm]
  ·have h0:i=a.length:=by omega
   subst h0;rw[List.drop_length,hab,List.drop_length]at hs;refine zQs (Qx (by simp only[Z.ofN,Z.len];omega)) ?_
   rw[←hs];rfl
 ·exact zQq (by simp[Z.ine,Z.ofN,Z.len];omega) (by rw[yJe hab])
theorem yWn(a b:List Blk)(ha:a.length<4611686018427387904):zY7 (a,b)=some (zJ7 a b):=by
 unfold zY7;dsimp only;by_cases hab:a.length=b.length
 ·refine zQs (by simp[Z.ine,Z.ofN,Z.len,hab]) ?_
  refine zWx (fun(s:Int)=>∃i:Nat,s=i∧i≤a.length∧zJ7 (a.drop i) (b.drop i)=zJ7 a b) (fun s=>a.length-s.toNat) ?_ ⟨0,rfl,Jd _,rfl⟩ (yW3 _ _ (by omega))
  rintro d k ⟨i,rfl,hi,hs⟩ hk;by_cases h1:i<a.length
  ·have h2:i<b.length:=by omega
   rw[Jl h1,Jl h2]at hs;refine zQq (Qu (by simp only[Z.ofN,Z.len];omega)) ?_
   refine zQb ⟨by omega,by simp only[Z.len];omega⟩ ?_
   refine zQi (getN a h1 _) ?_;refine zQb ⟨by omega,by simp only[Z.len];omega⟩ ?_
   refine zQi (getN b h2 _) ?_;generalize a[i]=x at *;generalize b[i]=y at *;obtain⟨x1,x2,x3,_⟩:=x;obtain⟨y1,y2,y3,_⟩:=y;refine zQh (xXo x1 x2 x3 y1 y2 y3) ?_;cases hsm:xY2 x1 x2 x3 y1 y2 y3 with
   |false=>
    refine zQq rfl ?_;rw[←hs];simp[zJ7,wJz,hsm]
   |true=>
    refine zQs rfl ?_;refine zQi (yYs (by simp only[Z.add];omega)) ?_
    refine hk _ ⟨i+1,by simp,h1, ?_⟩ (by show a.length-((i:Int)+1).toNat<a.length-((i:Int)).toNat;omega)
    rw[←hs];simp[zJ7,wJz,hsm]
  ·have h0:i=a.length:=by omega
   subst h0;rw[List.drop_length,hab,List.drop_length]at hs;refine zQs (Qx (by simp only[Z.ofN,Z.len];omega)) ?_
   rw[←hs];rfl
 ·exact zQq (by simp[Z.ine,Z.ofN,Z.len];omega) (by rw[yJe hab])
def atS(s:List Blk)(id:Int):Int:=if(fdS s id).isSome=true then((lbN s id:Nat):Int)else -1
theorem vYc{s:List Blk}{id:Int}(hp:s.Pairwise (fun x y=>x.1<y.1)){i:Nat}(h:i<s.length)(he:s[i].1=id):atS s id=(i:Int):=by
 have h1:¬i<lbN s id:=fun hh=>by have:=vXa s id i h hh;omega
 have h2:¬lbN s id<i:=fun hh=>by
  have h3:lbN s id<s.length:=by omega
  have:=vXb s id hp (lbN s id) h3 (Qe _);rw[List.pairwise_iff_getElem]at hp;have:=hp _ _ h3 h hh;omega
 have e:lbN s id=i:=by omega
 unfold atS;rw[xWy hp e h he,Option.isSome_some,Qf rfl,e]
theorem uXy{s:List Blk}{id:Int}(h:∀i (hi:i<s.length),¬s[i].1=id):atS s id=-1:=by
 unfold atS;have:fdS s id=none:=by
  unfold fdS;rw[Wj];intro x hx;obtain⟨i,hi,rfl⟩:=List.getElem_of_mem hx;simpa using h i hi
 rw[this];rfl
theorem xYc(s:List Blk)(id:Int)(hl:s.length≤1000000)(hp:s.Pairwise (fun x y=>x.1<y.1)):yQz (s,id)=some (atS s id):=by
 unfold yQz;dsimp only;refine zWx (fun(d:Int)=>∃i:Nat,d=i∧i≤s.length∧∀j (hj:j<s.length),j<i→¬s[j].1=id) (fun d=>s.length-d.toNat) ?_ ⟨0,rfl,Jd _,fun _ _ h=>absurd h (Nat.not_lt_zero _)⟩ (yW3 _ _ (by omega))
 rintro d k ⟨i,rfl,hi,hno⟩ hk;by_cases hlt:i<s.length
 ·refine zQq (Qu (by simp only[Z.ofN,Z.len];omega)) ?_
  refine zQb (ixN hlt (by omega)) (zQi (getN s hlt _) ?_)
  by_cases he:s[i].1=id
  ·refine zQq (by simp[Z.ieq,he]) ?_
   rw[vYc hp hlt he]
  ·refine zQs (by simp[Z.ieq,he]) ?_
   refine zQi (zY5 (by omega)) ?_
   refine hk _ ⟨i+1,rfl,hlt,fun j hj h=>?_⟩ (by show s.length-(((i+1:Nat):Int)).toNat<s.length-((i:Int)).toNat;omega)
   by_cases e:j=i
   ·subst e;exact he
   ·exact hno j hj (by omega)
 ·refine zQs (Qx (by simp only[Z.ofN,Z.len];omega)) ?_
  rw[uXy fun j hj=>hno j hj (by omega)]
theorem vY1(s:List Blk)(id:Int):Z.ilt (atS s id) 0=!(fdS s id).isSome:=by
 unfold atS;cases h:(fdS s id).isSome with
 |true=>rw[Qf rfl];exact Qx (by omega)
 |false=>rfl
theorem fd_get{s:List Blk}{id:Int}(hp:s.Pairwise (fun x y=>x.1<y.1))(h:(fdS s id).isSome=true):∃hh:lbN s id<s.length,fdS s id=some s[lbN s id]:=by
 have e:=vXv s id hp;by_cases hh:lbN s id<s.length
 ·refine⟨hh, ?_⟩
  rw[Qm hh]at e;dsimp only at e;split at e
  ·exact e
  ·rw[e]at h;cases h
 ·rw[J2 (by omega)]at e
  rw[e]at h;cases h
theorem vXq(B S H W:Int)(s:List Blk)(id:Int)(hl:s.length≤1000):yXt ((B,(S,(H,(W,())))),(s,id))=some (fndS B S H W s id):=by
 unfold yXt;dsimp only;refine zQh (yQn B S H W s (by omega)) ?_
 unfold fndS;rcases(yYp B S H W s).symm with h8|h0
 ·rw[Qi (by omega)]
  exact zQq (by rw[h8];rfl) rfl
 have hp:=(zJ5.1 (zYh h0).2).2;have hd:=yQ7 h0;rw[Qf h0];refine zQs (by rw[h0];rfl) ?_
 refine zQh (xYc s id (by omega) hp) ?_
 rw[vY1];cases hf:(fdS s id).isSome with
 |false=>
  refine zQq rfl ?_;have:fdS s id=none:=by cases h:fdS s id with|none=>rfl|some x=>rw[h]at hf;cases hf
  rw[this];rfl
 |true=>
  refine zQs rfl ?_;refine zQh (xYc s id (by omega) hp) ?_
  obtain⟨hh,e⟩:=fd_get hp hf;have ea:atS s id=((lbN s id:Nat):Int):=by unfold atS;rw[Qf hf]
  rw[ea,e];refine zQb (ixN hh (by omega)) (zQi (getN s hh _) ?_)
  exact zQh (zZc _ _ _ (hd _ (Ka hh))) rfl
def wiS:List Blk→Blk→Bool→List Blk
 |[],b,d=>if d=true then []else [b]
 |x::l,b,d=>(if d=false∧b.1≤x.1 then [b]else [])++((if x.1≠b.1 then [x]else [])++wiS l b (d||decide (b.1≤x.1)))
theorem wY4:∀(l:List Blk) (b:Blk),(∀y∈l,y.1≠b.1)→wiS l b true=l
 |[],b,_=>rfl
 |x::l,b,h=>by
  simp only[wiS];rw[Qi (by simp),Qf (h x (by simp)),Bool.true_or,wY4 l b fun y hy=>h y (by simp[hy])]
  rfl
theorem wY3:∀(s:List Blk) (b:Blk),s.Pairwise (fun x y=>x.1<y.1)→wiS s b false=putR s b
 |[],b,_=>rfl
 | x::l,b,hp=>by
  rw[Jz]at hp;simp only[wiS,putR];by_cases hlt:x.1<b.1
  ·rw[Qi (by omega),Qf (by omega),Qf hlt,Qx (by omega),Wr,wY3 l b hp.2]
   rfl
  ·have hrest:wiS l b true=l:=wY4 l b fun y hy=>by have:=hp.1 y hy;omega
   rw[Qf ⟨trivial,by omega⟩,Qi hlt,Qu (by omega),Wr,hrest]
   by_cases he:x.1=b.1
   ·rw[Qi (by simp[he]),Qf he];rfl
   ·rw[Qf he,Qi he];rfl
theorem xYm (s:List Blk)(b:Blk)(hl:s.length≤1000)(hd:∀x∈s,x.2.2.1.length≤2000000)(hb:b.2.2.1.length≤2000000):yQd (s,b)=some (wiS s b false):=by
  unfold yQd;dsimp only;refine zQb rfl ?_;refine zWx (fun(st:List Blk×(Bool×Int))=>∃(i:Nat) (o:List Blk) (d:Bool),st=(o,(d,(i:Int)))∧i≤s.length∧o.length≤2*i∧o++wiS (s.drop i) b d=wiS s b false) (fun st=>s.length-st.2.2.toNat) ?_ ⟨0,[],false,rfl,Jd _,by simp,rfl⟩ (yW3 _ _ (by omega))
  rintro st k ⟨i,o,d,rfl,hi,hol,he⟩ hk;dsimp only;have tb:=zZc b.1 b.2.1 b.2.2.1 hb;by_cases hlt:i<s.length
  · refine zQq (Qu (by simp only[Z.ofN,Z.len];omega)) ?_
    rw[Jl hlt]at he;have tx:=zZc s[i].1 s[i].2.1 s[i].2.2.1 (hd _ (Ka hlt));have gx:=fun z=>getN s hlt z
    have ix:Z.Ix (i:Int) (Z.len s):=ixN hlt (by omega)
    have hn:=fun(o2:List Blk) (d2:Bool) (h1:o2.length≤2*(i+1)) (h2:o2++wiS (s.drop (i+1)) b d2=wiS s b false)=>hk (o2,(d2,((i+1:Nat):Int))) ⟨i+1,o2,d2,rfl,hlt,h1,h2⟩ (by show s.length-(((i+1:Nat):Int)).toNat<s.length-((i:Int)).toNat;omega)
    generalize s[i]=x at *;simp only[wiS]at he;have own:∀(o2:List Blk) (d2:Bool),o2.length≤2*i+1→o2++((if x.1≠b.1 then [x]else [])++wiS (s.drop (i+1)) b d2)=wiS s b false→(if(Z.Ix (i:Int) (Z.len s))then Z.bnd (Z.get s (Z.toN (i:Int)) (0,(0,(([]:List (Int)),())))) fun(x38:Blk)=>
 (bif (Z.ine x38.1 b.1)then if(Z.Ix (i:Int) (Z.len s))then Z.bnd (Z.get s (Z.toN (i:Int)) (0,(0,(([]:List (Int)),())))) fun(x41:Blk)=>
 Z.bind (zXn (x41.1,(x41.2.1,(x41.2.2.1,())))) fun(x42:Blk)=>
 if(Z.Le (Z.addN 0 1) (Z.len ((x42.1,(x42.2.1,(x42.2.2.1,())))::([]:List Blk))))then if(Z.Big (Z.len o2) (Z.len (Z.seg ((x42.1,(x42.2.1,(x42.2.2.1,())))::([]:List Blk)) 0 1)) 40)then none
 else if(Z.EqN (Z.len o2) (Z.len o2))then Z.bnd (Z.app o2 (Z.seg ((x42.1,(x42.2.1,(x42.2.2.1,())))::([]:List Blk)) 0 1)) fun(x49:List Blk)=>
 Z.bnd (Z.wrap .i64 (Z.add (i:Int) 1)) fun(x50:Int)=>
 if(Z.EqN (Z.len x49) (Z.len x49))then k (x49,(d2,x50))
 else none
 else none
 else none
 else none
 else Z.bnd (Z.wrap .i64 (Z.add (i:Int) 1)) fun(x53:Int)=>
 if(Z.EqN (Z.len o2) (Z.len o2))then k (o2,(d2,x53))
 else none)
 else none)=some (wiS s b false):=fun o2 d2 h1 h2=>by
      refine zQb ix (zQi (gx _) ?_);by_cases hx:x.1=b.1
      · rw[Qi (by simp[hx])]at h2
        refine zQs (by simp[Z.ine,hx]) ?_
        refine zQi (zY5 (by omega)) (zQb rfl ?_)
        exact hn o2 d2 (by omega) h2
      · rw[Qf hx]at h2
        refine zQq (by simp[Z.ine,hx]) ?_
        refine zQb ix (zQi (gx _) ?_);refine zQh tx ?_;refine zQb (Qe _) ?_;refine iteN (fun h=>?_) ?_
        · have h:2^44<(o2.length+1)*41:=h
          omega
        refine zQb rfl ?_;refine zQi (y:=o2++[x]) rfl ?_;refine zQi (zY5 (by omega)) (zQb rfl ?_)
        exact hn (o2++[x]) d2 (by rw[Q5];show o2.length+1≤_;omega) (by rw[Jn];exact h2)
    cases d with
    | true=>
      refine zQs rfl ?_;rw[Qi (by simp),Bool.true_or]at he
      exact own o true (by omega) he
    | false =>
      refine zQq rfl ?_;refine zQb ix (zQi (gx _) ?_);by_cases hge:b.1≤x.1
      · rw [Qf ⟨rfl,hge⟩,Qu hge,Wr]at he
        refine zQq (by simp[Z.zQu,Z.ige,hge]) ?_
        refine zQh tb ?_;refine zQb (Qe _) ?_;refine iteN (fun h=>?_) ?_
        · have h:2^44<(o.length+1)*41:=h
          omega
        refine zQb rfl ?_;refine zQi (y:=o++[b]) rfl ?_;have h1:(o++[b]).length≤2*i+1:=by rw[Q5];show o.length+1≤_;omega
        have h2:(o++[b])++((if x.1≠b.1 then [x]else [])++wiS (s.drop (i+1)) b true)=wiS s b false:=by rw[Jn];exact he
        generalize o++[b]=o2 at *;refine zQb ix (zQi (gx _) ?_);by_cases hx:x.1=b.1
        · rw[Qi (by simp[hx])]at h2
          refine zQs (by simp[Z.ine,hx]) ?_
          refine zQi (zY5 (by omega)) (zQb rfl ?_)
          exact hn o2 true (by omega) h2
        · rw[Qf hx]at h2
          refine zQq (by simp[Z.ine,hx]) ?_
          refine zQb ix (zQi (gx _) ?_);refine zQh tx ?_;refine zQb (Qe _) ?_;refine iteN (fun h=>?_) ?_
          · have h:2^44<(o2.length+1)*41:=h
            omega
          refine zQb rfl ?_;refine zQi (y:=o2++[x]) rfl ?_;refine zQi (zY5 (by omega)) (zQb rfl ?_)
          exact hn (o2++[x]) true (by rw[Q5];show o2.length+1≤_;omega) (by rw[Jn];exact h2)
      · rw[Qi (fun h=>hge h.2),Qx hge,Wr]at he
        refine zQs (by simp[Z.zQu,Z.ige];omega) ?_
        exact own o false (by omega) he
  · refine zQs (Qx (by simp only[Z.ofN,Z.len];omega)) ?_
    have hd:s.drop i=[]:=Jx (by omega)
    rw[hd]at he;simp only[wiS]at he;cases d with
    |true=>rw[Qf rfl,Jq]at he;exact zQs rfl (by rw[he])
    | false=>
      rw[Qi (by simp)]at he
      refine zQq rfl ?_;refine zQh tb ?_;refine zQb (Qe _) ?_;refine iteN (fun h=>?_) ?_
      · have h:2^44<(o.length+1)*41:=h
        omega
      refine zQb rfl ?_;refine zQi (y:=o++[b]) rfl ?_;rw[he]
end Go.Proofs.Ytampmlalpifkoaa
