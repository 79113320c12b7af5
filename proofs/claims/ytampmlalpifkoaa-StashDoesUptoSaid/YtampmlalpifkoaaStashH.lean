/- Stashes: the document's Put, Drop and Add. -/
import Derived.Test.YtampmlalpifkoaaStashG
namespace Go.Proofs.Ytampmlalpifkoaa
open Go.Eng
set_option linter.unusedVariables false
set_option linter.unusedSimpArgs false
theorem wWd{B S H W:Int}{b:Blk}(h0:(zX5 B S H W).2=0):yZ2 B S H b.1 b.2.1 b.2.2.1=decide (zZi B S H W b.1 b.2.1 b.2.2.1=0):=by
 unfold zZi;rw[Qf h0];cases yZ2 B S H b.1 b.2.1 b.2.2.1 with
 |true=>rfl
 |false=>rfl
theorem vKw(B S H W:Int)(s:List Blk)(b:Blk)(hl:s.length≤1000):yKe ((B,(S,(H,(W,())))),(s,b))=some (pS B S H W s b):=by
 unfold yKe;dsimp only;refine zQh (yQn B S H W s (by omega)) ?_
 unfold pS;rcases(yYp B S H W s).symm with h8|h0
 ·rw[Qi (by omega)]
  exact zQq (by rw[h8];rfl) rfl
 obtain⟨hs,hst⟩:=zYh h0;have hp:=(zJ5.1 hst).2;rw[Qf h0];refine zQs (by rw[h0];rfl) ?_
 refine zQh (zY0 B S H W b.1 b.2.1 b.2.2.1 (zY8 hs)) ?_;rw[wWd hs];rcases(yK3 B S H W b.1 b.2.1 b.2.2.1).symm with c8|c0
 ·rw[Qi (by omega),Qx (by omega)]
  exact zQq rfl rfl
 ·rw[Qf c0,Qu c0]
  refine zQs rfl ?_;refine zQh (xYm s b hl (yQ7 h0) (zK6 c0)) ?_;rw[wY3 s b hp]
theorem xYl(s:List Blk)(id:Int)(hl:s.length≤1000)(hd:∀x∈s,x.2.2.1.length≤2000000):zJw (s,id)=some (s.filter fun x=>decide (x.1≠id)):=by
 unfold zJw;dsimp only;refine zQb rfl ?_;refine zWx (fun(st:List Blk×Int)=>∃(i:Nat) (o:List Blk),st=(o,(i:Int))∧i≤s.length∧o.length≤i∧o++(s.drop i).filter (fun x=>decide (x.1≠id))=s.filter (fun x=>decide (x.1≠id))) (fun st=>s.length-st.2.toNat) ?_ ⟨0,[],rfl,Jd _,Qe _,rfl⟩ (yW3 _ _ (by omega))
 rintro st k ⟨i,o,rfl,hi,hol,he⟩ hk;dsimp only;by_cases hlt:i<s.length
 ·refine zQq (Qu (by simp only[Z.ofN,Z.len];omega)) ?_
  rw[Jl hlt]at he;have tx:=zZc s[i].1 s[i].2.1 s[i].2.2.1 (hd _ (Ka hlt));refine zQb (ixN hlt (by omega)) (zQi (getN s hlt _) ?_)
  have gx:=fun z=>getN s hlt z
  have dec:s.length-((i+1:Nat):Int).toNat<s.length-((i:Int)).toNat:=by omega
  generalize s[i]=x at *;by_cases hx:x.1=id
  ·rw[List.filter_cons_of_neg (by simp[hx])]at he
   refine zQs (by simp[Z.ine,hx]) ?_
   refine zQi (zY5 (by omega)) (zQb rfl ?_)
   exact hk _ ⟨i+1,o,rfl,hlt,by omega,he⟩ dec
  ·rw[List.filter_cons_of_pos (by simp[hx])]at he
   refine zQq (by simp[Z.ine,hx]) ?_
   refine zQb (ixN hlt (by omega)) (zQi (gx _) ?_)
   refine zQh tx ?_;refine zQb (Qe _) ?_;refine iteN (fun h=>?_) ?_
   ·have h:2^44<(o.length+1)*41:=h
    omega
   refine zQb rfl ?_;refine zQi (y:=o++[x]) rfl ?_;refine zQi (zY5 (by omega)) (zQb rfl ?_)
   exact hk _ ⟨i+1,o++[x],rfl,hlt,by rw[Q5];show o.length+1≤_;omega,by rw[Jn];exact he⟩ dec
 ·refine zQs (Qx (by simp only[Z.ofN,Z.len];omega)) ?_
  have hdr:s.drop i=[]:=Jx (by omega)
  rw[hdr,List.filter_nil,Jq]at he;rw[he]
theorem xWw:∀(s:List Blk) (id:Int),s.Pairwise (fun x y=>x.1<y.1)→(fdS s id).isSome=true→s.filter (fun x=>decide (x.1≠id))=xJ2 s id
 |[],id,_,h=>by simp[fdS]at h
 | x::l,id,hp,h=>by
  rw[Jz]at hp;unfold fdS at h;simp only[xJ2];by_cases hlt:x.1<id
  ·rw[Qf hlt,List.filter_cons_of_pos (by simp;omega)]
   rw[Kd (by simp;omega)]at h
   rw[xWw l id hp.2 h]
  ·rw[Qi hlt]
   by_cases he:x.1=id
   ·rw[Qf he,List.filter_cons_of_neg (by simp[he])]
    exact List.filter_eq_self.2 fun y hy=>by have:=hp.1 y hy;simp;omega
   ·rw[Kd (by simp[he])]at h
    have hno:l.find? (fun y=>decide (y.1=id))=none:=by
     rw[Wj];intro y hy;have:=hp.1 y hy;simp;omega
    rw[hno]at h;cases h
theorem vXz(B S H W:Int)(s:List Blk)(id:Int)(hl:s.length≤1000):yXu ((B,(S,(H,(W,())))),(s,id))=some (dS B S H W s id):=by
 unfold yXu;dsimp only;refine zQh (yQn B S H W s (by omega)) ?_
 unfold dS;rcases(yYp B S H W s).symm with h8|h0
 ·rw[Qi (by omega)]
  exact zQq (by rw[h8];rfl) rfl
 have hp:=(zJ5.1 (zYh h0).2).2;rw[Qf h0];refine zQs (by rw[h0];rfl) ?_
 refine zQh (xYc s id (by omega) hp) ?_
 rw[vY1];cases hf:(fdS s id).isSome with
 |false=>exact zQq rfl rfl
 |true=>
  refine zQs rfl ?_;refine zQh (xYl s id hl (yQ7 h0)) ?_;rw[xWw s id hp hf];rfl
def moS:List Blk→List Blk→Option (List Blk)
 |s,[]=>some s
 |s,b::more=>if(fdS s b.1).isSome=true then none else moS (putR s b) more
theorem vW0(s more:List Blk)(hl:s.length+more.length≤1000)(hp:s.Pairwise (fun x y=>x.1<y.1))(hd:∀x∈s,x.2.2.1.length≤2000000)(hm:∀x∈more,x.2.2.1.length≤2000000):yXs (s,more)=some (match moS s more with|some o=>(o,true)|none=>([],false)):=by
 unfold yXs;dsimp only;refine zQh (yK9 s hd (by omega)) ?_
 refine zWx (fun(st:List Blk×Int)=>∃(i:Nat) (o:List Blk),st=(o,(i:Int))∧i≤more.length∧o.length≤s.length+i∧o.Pairwise (fun x y=>x.1<y.1)∧(∀x∈o,x.2.2.1.length≤2000000)∧moS o (more.drop i)=moS s more) (fun st=>more.length-st.2.toNat) ?_ ⟨0,s,rfl,Jd _,Qe _,hp,hd,rfl⟩ (yW3 _ _ (by omega))
 rintro st k ⟨i,o,rfl,hi,hol,hop,hod,he⟩ hk;dsimp only;by_cases hlt:i<more.length
 ·refine zQq (Qu (by simp only[Z.ofN,Z.len];omega)) ?_
  rw[Jl hlt]at he;refine zQb (ixN hlt (by omega)) (zQi (getN more hlt _) ?_)
  refine zQh (xYc o _ (by omega) hop) ?_
  have gx:=fun z=>getN more hlt z
  have hb:=hm _ (Ka hlt);have dec:more.length-((i+1:Nat):Int).toNat<more.length-((i:Int)).toNat:=by omega
  generalize more[i]=b at *;simp only[moS]at he;have hge:Z.ige (atS o b.1) 0=(fdS o b.1).isSome:=by
   unfold atS;cases h:(fdS o b.1).isSome with
   |true=>rw[Qf rfl];exact Qu (by omega)
   |false=>rfl
  rw[hge];cases hf:(fdS o b.1).isSome with
  |true=>
   rw[hf,Qf rfl]at he;refine zQq rfl ?_;rw[←he]
  | false=>
   rw[hf,Qi (by simp)]at he
   refine zQs rfl ?_;refine zQb (ixN hlt (by omega)) (zQi (gx _) ?_)
   refine zQh (xYm o b (by omega) hod hb) ?_
   rw[wY3 o b hop];refine zQi (zY5 (by omega)) ?_
   refine hk _ ⟨i+1,putR o b,rfl,hlt, ?_,yJh hop,fun x hx=>?_,he⟩ dec
   ·rw[vWm o b hop,hf,Qi (by simp)];omega
   ·rcases xKv hx with rfl|hx
    ·exact hb
    ·exact hod x hx
 ·refine zQs (Qx (by simp only[Z.ofN,Z.len];omega)) ?_
  have hdr:more.drop i=[]:=Jx (by omega)
  rw[hdr]at he;simp only[moS]at he;rw[←he]
theorem vY3(B S H W:Int):∀(s more:List Blk),(∀x∈more,zZi B S H W x.1 x.2.1 x.2.2.1=0)→addR B S H W s more=moS s more
 |s,[],_=>rfl
 |s,b::more,h=>by
  simp only[addR,moS];rw[Qf (h b (by simp)),vY3 B S H W (putR s b) more fun x hx=>h x (by simp[hx])]
theorem vZz(B S H W:Int):∀(more s:List Blk),(∃x∈more,zZi B S H W x.1 x.2.1 x.2.2.1≠0)→addR B S H W s more=none
 |[],s,h=>by obtain⟨x,hx,_⟩:=h;cases hx
 | b::more,s,h=>by
  simp only[addR];split
  ·rfl
  ·split
   ·rename_i hc
    refine vZz B S H W more (putR s b) ?_;obtain⟨x,hx,hn⟩:=h;rcases Jm.1 hx with rfl|hx
    ·exact absurd hc hn
    ·exact⟨x,hx,hn⟩
   ·rfl
theorem vYd(B S H W:Int)(s more:List Blk)(hl:s.length+more.length≤1000):yKg ((B,(S,(H,(W,())))),(s,more))=some (aS B S H W s more):=by
 unfold yKg;dsimp only;refine zQh (yQn B S H W s (by omega)) ?_
 unfold aS;rcases(yYp B S H W s).symm with h8|h0
 ·rw[Qi (by omega)]
  exact zQq (by rw[h8];rfl) rfl
 obtain⟨hs,hst⟩:=zYh h0;have hp:=(zJ5.1 hst).2;rw[Qf h0];refine zQs (by rw[h0];rfl) ?_
 refine zWx (fun(d:Int)=>∃i:Nat,d=i∧i≤more.length∧∀j (hj:j<more.length),j<i→zZi B S H W more[j].1 more[j].2.1 more[j].2.2.1=0) (fun d=>more.length-d.toNat) ?_ ⟨0,rfl,Jd _,fun _ _ h=>absurd h (Nat.not_lt_zero _)⟩ (yW3 _ _ (by omega))
 rintro d k ⟨i,rfl,hi,hok⟩ hk;by_cases hlt:i<more.length
 ·refine zQq (Qu (by simp only[Z.ofN,Z.len];omega)) ?_
  refine zQb (ixN hlt (by omega)) (zQi (getN more hlt _) ?_)
  refine zQh (zY0 B S H W more[i].1 more[i].2.1 more[i].2.2.1 (zY8 hs)) ?_;rw[wWd hs];rcases(yK3 B S H W more[i].1 more[i].2.1 more[i].2.2.1).symm with c8|c0
  ·rw[Qx (by omega)]
   refine zQq rfl ?_;rw[vZz B S H W more s ⟨_,Ka hlt,by omega⟩]
  ·rw[Qu c0]
   refine zQs rfl ?_;refine zQi (zY5 (by omega)) ?_
   refine hk _ ⟨i+1,rfl,hlt,fun j hj h=>?_⟩ (by show more.length-(((i+1:Nat):Int)).toNat<more.length-((i:Int)).toNat;omega)
   by_cases e:j=i
   ·subst e;exact c0
   ·exact hok j hj (by omega)
 ·refine zQs (Qx (by simp only[Z.ofN,Z.len];omega)) ?_
  have hall:∀x∈more,zZi B S H W x.1 x.2.1 x.2.2.1=0:=fun x hx=>by
   obtain⟨j,hj,rfl⟩:=List.getElem_of_mem hx;exact hok j hj (by omega)
  refine zQh (vW0 s more hl hp (yQ7 h0) fun x hx=>zK6 (hall x hx)) ?_
  rw[vY3 B S H W s more hall];cases moS s more with
  |none=>exact zQq rfl rfl
  |some o=>exact zQs rfl rfl
end Go.Proofs.Ytampmlalpifkoaa
