/- Stashes whose blocks' data stand in rows: Put and Add. -/
import Derived.Test.YtampmlalpifkoaaStashW
namespace Go.Proofs.Ytampmlalpifkoaa
open Go.Eng
set_option linter.unusedVariables false
set_option linter.unusedSimpArgs false
theorem uQ7(B S H W:Int)(s:List Blk)(b:Blk)(hl:s.length≤10000):∃Q P d,zZ5 ((B,(S,(H,(W,())))),(s,b))=some ((Q,P),(d,(pS B S H W s b).2))∧Rp Q P d (pS B S H W s b).1:=by
 rcases(yYp B S H W s).symm with h8|h0
 ·refine⟨[],[], .nil, ?_, .inl ⟨rfl,by unfold pS;rw[Qi (by omega)]⟩⟩
  unfold zZ5;dsimp only;refine zQh (zWi B S H W s (by omega)) ?_
  refine zQq (by rw[h8];rfl) ?_
  unfold pS;rw[Qi (by omega),h8]
 rcases(yK3 B S H W b.1 b.2.1 b.2.2.1).symm with c8|c0
 ·refine⟨[],[], .nil, ?_, .inl ⟨rfl,by unfold pS;rw[Qf h0,Qi (by omega)]⟩⟩
  unfold zZ5;dsimp only;refine zQh (zWi B S H W s (by omega)) ?_
  refine zQs (by rw[h0];rfl) ?_
  refine zQh (zKk B S H W b.1 b.2.1 b.2.2.1) ?_;refine zQq (by rw[c8];rfl) ?_
  unfold pS;rw[Qf h0,Qi (by omega),c8]
 have hp:=(zJ5.1 (zYh h0).2).2;have hd:=yQ7 h0;have hbd:=zK6 c0;have hps:pS B S H W s b=(putR s b,0):=by unfold pS;rw[Qf h0,Qf c0]
 rw[hps];have hzQ:=wYw s hd;have hzf:=xQj 0 s;have hql:(s.map fun x=>x.2.2.1).length=s.length:=Qh ..
 have hput:=wKn s b hp;have goal:∀(l:List IB),l=(if(fdS s b.1).isSome=true then(zlF 0 s).set (lbN s b.1) (b,s.length)else(zlF 0 s).take (lbN s b.1)++(b,s.length)::(zlF 0 s).drop (lbN s b.1))→
   zZ5 ((B,(S,(H,(W,())))),(s,b))=some (((s.map fun x=>x.2.2.1)++[b.2.2.1],[l.map mkI]),(.ref 0 0 (l.map mkI).length (l.map mkI).length,0)):=by
  intro l hlq;unfold zZ5;dsimp only;refine zQh (zWi B S H W s (by omega)) ?_
  refine zQs (by rw[h0];rfl) ?_
  refine zQh (zKk B S H W b.1 b.2.1 b.2.2.1) ?_;refine zQs (by rw[c0];rfl) ?_
  refine zQb (Z.zYx.2 ⟨Int.le_refl _,by simp only[Z.ofN,Z.len];omega,by simp only[Z.ofN,Z.len];omega,by simp only[Z.ofN,Z.len];omega⟩) ?_
  refine zQb (Jd _) ?_;refine zQh (y:=[]) rfl ?_;refine uQd (by omega) hd ?_
  dsimp only;have hzm:zM s=(zlF 0 s).map mkI:=rfl;rw[hzm];refine bisM hzf hzQ (by omega) hp ?_
  dsimp only;have hle:=xZs s b.1;generalize hP:lbN s b.1=p at *;generalize hZ:zlF 0 s=zm at *;generalize hQe:(s.map fun x=>x.2.2.1)=Q at *
  have hll:(zm.map mkI).length=s.length:=by rw[←hzf];simp
  by_cases hlt:p<s.length
  ·refine zQq (Qu (by simp only[Z.ofN,Z.xlen];omega)) ?_
   obtain⟨i,a1,a2,a3,a4,a5⟩:=atM hzf hzQ hlt (by omega)
   refine zQb a1 (zQb a2 (zQb a2 (zQi a3 ?_)));refine zQb a4 (zQi a5 ?_);refine zQh (y:=s[p].1) rfl ?_;by_cases he:s[p].1=b.1
   ·rw[xWy hp hP hlt he,Option.isSome_some,Qf rfl]at hlq
    refine zQq (by simp[Z.zQu,Z.ieq,he]) ?_
    refine zQh (y:=b) (zZy b.1 b.2.1 b.2.2.1 hbd) ?_;refine zQi (y:=Q++[b.2.2.1]) rfl ?_;refine zQb a1 (zQb a2 (zQb a2 ?_));have el:l.map mkI=(zm.map mkI).set p (b.1,(b.2.1,(Z.xrow Q.length b.2.2.1,()))):=by rw[hlq,Jb,hql];rfl
    have ell:(l.map mkI).length=(zm.map mkI).length:=by rw[el,Kh]
    refine zQi (y:=[l.map mkI]) ?_ ?_
    ·rw[el]
     show [zm.map mkI].set 0 ((zm.map mkI).set (0+p) _)=_;rw[Jo];rfl
    ·rw[ell]
   ·rw[vJt hp hP hlt he,Wk,Qi (by simp)]at hlq
    refine zQs (by simp[Z.zQu,Z.ieq,he]) ?_
    refine insM (o:=s) hzf hbd (by omega) hle ?_
    rw[hlq,hql]
  ·rw[wJj hp (by omega),Wk,Qi (by simp)]at hlq
   refine zQs (Qx (by simp only[Z.ofN,Z.xlen];omega)) ?_
   refine insM (o:=s) hzf hbd (by omega) hle ?_
   rw[hlq,hql]
 refine⟨_,_,_,goal _ rfl, .inr ⟨_,rfl,rfl, ?_, ?_⟩⟩
 ·rw[hput]
  split
  ·rw[Jb,hzf]
  ·rw[Qw,Qg,J1,J9,hzf]
 ·split
  ·have:=hzQ.put hbd (lbN s b.1)
   rw[hql]at this;exact this
  ·have:=hzQ.ins hbd (lbN s b.1)
   rw[hql]at this;exact this
def addL(B S H W:Int):List (List Int)→List IB→List Blk→Option (List (List Int)×List IB)
 |Q,l,[]=>some (Q,l)
 |Q,l,b::more=>if(fdS (l.map (·.1)) b.1).isSome=true then none else if zZi B S H W b.1 b.2.1 b.2.2.1=0 then addL B S H W (Q++[b.2.2.1]) (l.take (lbN (l.map (·.1)) b.1)++(b,Q.length)::l.drop (lbN (l.map (·.1)) b.1)) more else none
def ansL:Option (List (List Int)×List IB)→((List (List Int))×(List (List MBlk)))×((MixE MBlk)×Int)
 |some x=>((x.1,[x.2.map mkI]),(.ref 0 0 (x.2.map mkI).length (x.2.map mkI).length,0))
 |none=>(([],[]),(.nil,8))
theorem vXh{l:List IB}{o:List Blk}(hlo:l.map (·.1)=o)(b:Blk)(q p:Nat):(l.take p++(b,q)::l.drop p).map (·.1)=o.take p++b::o.drop p:=by
 rw[Qw,Qg,J1,J9,hlo]
theorem vZ0(B S H W:Int):∀(more:List Blk) (Q:List (List Int)) (l:List IB),ckS B S H W (l.map (·.1))=0→InQ Q l→
  match addL B S H W Q l more with
  |some x=>addR B S H W (l.map (·.1)) more=some (x.2.map (·.1))∧InQ x.1 x.2
  |none=>addR B S H W (l.map (·.1)) more=none
 |[],Q,l,hc,hQ=>⟨rfl,hQ⟩
 | b::more,Q,l,hc,hQ=>by
  simp only[addL,addR];by_cases h1:(fdS (l.map (·.1)) b.1).isSome=true
  ·rw[Qf h1,Qf h1]
  ·rw[Qi h1,Qi h1]
   by_cases h2:zZi B S H W b.1 b.2.1 b.2.2.1=0
   ·rw[Qf h2,Qf h2]
    have hp:=(zJ5.1 (zYh hc).2).2;have hput:=wKn (l.map (·.1)) b hp
    rw[Qi h1]at hput;have e:=vXh (l:=l) rfl b Q.length (lbN (l.map (·.1)) b.1)
    rw[←hput]at e;have ih:=vZ0 B S H W more (Q++[b.2.2.1]) (l.take (lbN (l.map (·.1)) b.1)++(b,Q.length)::l.drop (lbN (l.map (·.1)) b.1)) (by rw[e];exact vYz hc h2) (hQ.ins (zK6 h2) _)
    rw[e]at ih;exact ih
   ·rw[Qi h2,Qi h2]
theorem vZy(B S H W:Int)(s more:List Blk)(hl:s.length+more.length≤10000)(h0:ckS B S H W s=0):zK0 ((B,(S,(H,(W,())))),(s,more))=some (ansL (addL B S H W (s.map fun x=>x.2.2.1) (zlF 0 s) more)):=by
  have hd:=yQ7 h0;have hzQ:=wYw s hd;have hzf:=xQj 0 s;unfold zK0;dsimp only;refine zQh (zWi B S H W s (by omega)) ?_
  refine zQs (by rw[h0];rfl) ?_
  refine zQb (Z.zYx.2 ⟨Int.le_refl _,by simp only[Z.ofN,Z.len];omega,by simp only[Z.ofN,Z.len];omega,by simp only[Z.ofN,Z.len];omega⟩) ?_
  refine zQb (Jd _) ?_;refine zQh (y:=[]) rfl ?_;refine uQd (by omega) hd ?_
  dsimp only;have hzm:zM s=(zlF 0 s).map mkI:=rfl;rw[hzm];refine zWx (fun(st:(MixE MBlk)×(Int×((List (List Int))×(List (List MBlk)))))=>∃(j:Nat) (Q:List (List Int)) (l:List IB),st=(.ref 0 0 (l.map mkI).length (l.map mkI).length,((j:Int),(Q,[l.map mkI])))∧j≤more.length∧l.length≤s.length+j∧ckS B S H W (l.map (·.1))=0∧InQ Q l∧addL B S H W Q l (more.drop j)=addL B S H W (s.map fun x=>x.2.2.1) (zlF 0 s) more)
    (fun st=>more.length-st.2.1.toNat) ?_ ⟨0,_,zlF 0 s,rfl,Jd _,by rw[wZv];exact Qe _,by rw[hzf];exact h0,hzQ,rfl⟩ (yW3 _ _ (by omega))
  rintro st k ⟨j,Q,l,rfl,hj,ho,hc,hQ,he⟩ hk;generalize addL B S H W (s.map fun x=>x.2.2.1) (zlF 0 s) more=R at *
  dsimp only;by_cases hlt:j<more.length
  · refine zQq (Qu (by simp only[Z.ofN,Z.len];omega)) ?_
    refine zQb (ixN hlt (by omega)) (zQi (getN more hlt _) ?_)
    have hdrop:more.drop j=more[j]::more.drop (j+1):=Jl hlt;rw[hdrop]at he;generalize more[j]=b at he⊢;have hp:=(zJ5.1 (zYh hc).2).2;simp only[addL]at he;obtain⟨o,ho2⟩:∃o,l.map (·.1)=o:=⟨_,rfl⟩
    have hol:o.length=l.length:=by rw[←ho2];simp
    have hput:=wKn (l.map (·.1)) b hp
    rw[ho2]at he hp hc hput;have hll:(l.map mkI).length=o.length:=by rw[hol,Qh]
    refine bisM ho2 hQ (by omega) hp ?_
    dsimp only;have hle:=xZs o b.1;generalize hP:lbN o b.1=p at *;have chk:∀(h:fdS o b.1=none) (X:Option (((List (List Int))×(List (List MBlk)))×((MixE MBlk)×Int))),(zZi B S H W b.1 b.2.1 b.2.2.1=0→X=some (ansL R))→
        Z.bind (zKc ((B,(S,(H,(W,())))),(b.1,(b.2.1,(b.2.2.1,()))))) (fun(x61:Int)=>(bif (Z.zQu false true (Z.ine x61 0))then some ((([]:List (List (Int))),([]:List (List MBlk))),((Z.xnil (α:=MBlk)),(8:Int)))else X))=some (ansL R):=fun h X hX=>by
      refine zQh (zKk B S H W b.1 b.2.1 b.2.2.1) ?_;rw[h,Wk,Qi (by simp)]at he
      rcases(yK3 B S H W b.1 b.2.1 b.2.2.1).symm with c8|c0
      · refine zQq (by rw[c8];rfl) ?_
        rw[Qi (by omega)]at he
        rw[←he];rfl
      ·exact zQs (by rw[c0];rfl) (hX c0)
    have fin:∀(h:fdS o b.1=none),zZi B S H W b.1 b.2.1 b.2.2.1=0→Z.bnd (Z.wrap .i64 (Z.add (j:Int) 1)) (fun(x71:Int)=>
 k ((Z.xnew (α:=MBlk) 0 (Z.len ((l.take p++(b,Q.length)::l.drop p).map mkI))),(x71,(Q++[b.2.2.1],((l.take p++(b,Q.length)::l.drop p).map mkI::([]:List (List MBlk)))))))=some (ansL R):=fun h c0=>by
      rw[h,Wk,Qi (by simp),Qf c0]at he
      rw[h,Wk,Qi (by simp)]at hput
      refine zQi (zY5 (i:=j) (by omega)) ?_
      refine hk _ ⟨j+1,Q++[b.2.2.1],l.take p++(b,Q.length)::l.drop p,rfl,hlt, ?_, ?_,hQ.ins (zK6 c0) p,he⟩ (by show more.length-(((j+1:Nat):Int)).toNat<more.length-((j:Int)).toNat;omega)
      ·simp only[Q5,Jc,Jf,J6];omega
      ·rw[vXh ho2,←hput];exact vYz hc c0
    by_cases hlp:p<o.length
    · refine zQq (Qu (by simp only[Z.ofN,Z.xlen];omega)) ?_
      obtain⟨i,a1,a2,a3,a4,a5⟩:=atM ho2 hQ hlp (by omega)
      refine zQb a1 (zQb a2 (zQb a2 (zQi a3 ?_)));refine zQb a4 (zQi a5 ?_);refine zQh (y:=o[p].1) rfl ?_;by_cases hi:o[p].1=b.1
      · refine zQq (by simp[Z.zQu,Z.ieq,hi]) ?_
        rw[xWy hp hP hlp hi,Option.isSome_some,Qf rfl]at he;rw[←he];rfl
      · have hn:=vJt hp hP hlp hi
        refine zQs (by simp[Z.zQu,Z.ieq,hi]) ?_
        exact chk hn _ fun c0=>insM ho2 (zK6 c0) (by omega) hle (fin hn c0)
    · have hn:=wJj hp (by omega:¬lbN o b.1<o.length)
      refine zQs (Qx (by simp only[Z.ofN,Z.xlen];omega)) ?_
      exact chk hn _ fun c0=>insM ho2 (zK6 c0) (by omega) hle (fin hn c0)
  · refine zQs (Qx (by simp only[Z.ofN,Z.len];omega)) ?_
    have hd:more.drop j=[]:=Jx (by omega)
    rw[hd]at he;simp only[addL]at he;rw[←he];rfl
theorem uXz(B S H W:Int)(s more:List Blk)(hl:s.length+more.length≤10000):∃Q P d,zK0 ((B,(S,(H,(W,())))),(s,more))=some ((Q,P),(d,(aS B S H W s more).2))∧Rp Q P d (aS B S H W s more).1:=by
 rcases(yYp B S H W s).symm with h8|h0
 ·refine⟨[],[], .nil, ?_, .inl ⟨rfl,by unfold aS;rw[Qi (by omega)]⟩⟩
  unfold zK0;dsimp only;refine zQh (zWi B S H W s (by omega)) ?_
  refine zQq (by rw[h8];rfl) ?_
  unfold aS;rw[Qi (by omega),h8]
 have hd:=yQ7 h0;have hm:=vZy B S H W s more hl h0;have hk:=vZ0 B S H W more (s.map fun x=>x.2.2.1) (zlF 0 s) (by rw[xQj];exact h0) (wYw s hd)
 rw[xQj]at hk;unfold aS;rw[Qf h0];generalize addL B S H W (s.map fun x=>x.2.2.1) (zlF 0 s) more=R at *
 cases R with
 |none=>
  dsimp only at hk;rw[hk];exact⟨[],[], .nil,hm, .inl ⟨rfl,rfl⟩⟩
 |some x=>
  obtain⟨k1,k2⟩:=hk;rw[k1];exact⟨x.1,[x.2.map mkI],_,hm, .inr ⟨x.2,rfl,rfl,rfl,k2⟩⟩
end Go.Proofs.Ytampmlalpifkoaa
