/- Stashes whose blocks' data stand in rows: Drop. -/
import Derived.Test.YtampmlalpifkoaaStashX
namespace Go.Proofs.Ytampmlalpifkoaa
open Go.Eng
set_option linter.unusedVariables false
set_option linter.unusedSimpArgs false
def rowG(s:List MBlk)(i:Nat):List MBlk:=s.take i++List.replicate (s.length-i) noM
theorem vKq{s:List MBlk}{i:Nat}(h:i≤s.length):(rowG s i).length=s.length:=by simp[rowG];omega
theorem vKo{s:List MBlk}{i:Nat}(h:i≤s.length):Z.seg (rowG s i) 0 i=s.take i:=by
 show((rowG s i).drop 0).take i=s.take i;unfold rowG;rw[Jt,Js (by simp;omega),List.take_take,Nat.min_self]
theorem vKp{s:List MBlk}{i:Nat}{e:MBlk}(h:i<s.length)(he:s.take (i+1)=s.take i++[e]):Z.put (rowG s i) (Z.addN 0 i) [e]=rowG s (i+1):=by
 show(rowG s i).take (0+i)++[e]++(rowG s i).drop (0+i+1)=rowG s (i+1);unfold rowG;have l1:(s.take i).length=i:=by simp;omega
 rw[Jo,Js (by omega),List.take_take,Nat.min_self,List.drop_append,Jx (by omega),l1,K2,List.drop_replicate,he]
 congr 2;omega
theorem vKr(s:List MBlk):rowG s s.length=s:=by simp[rowG]
theorem wK4{f:Blk→Option MBlk}(hf:f (0,(0,(([]:List Int),())))=some noM):∀n:Nat,Z.mapO f (List.replicate n (0,(0,(([]:List Int),()))))=some (List.replicate n noM)
 |0=>rfl
 |n+1=>by
  have ih:=wK4 hf n;show List.mapM f (List.replicate (n+1) _)=_;have ih':List.mapM f (List.replicate n (0,(0,(([]:List Int),()))))=some (List.replicate n noM):=ih
  rw[Kl,K7,hf,ih'];rfl
theorem twinE{β:Type}{s:List Blk}{r:β}{fin:((Nat)×((Nat)×(Nat)))×((List MBlk)×((List (List (Int)))×(Int)))→Option β}(hl:s.length≤100000)(hd:∀x∈s,x.2.2.1.length≤2000000)
    (hfin:fin ((0,(s.length,s.length)),(zM s,(s.map fun x=>x.2.2.1,(s.length:Int))))=some r):
    Z.loop (fun(s22:((Nat)×((Nat)×(Nat)))×((List MBlk)×((List (List (Int)))×(Int)))) k23=>
 (bif (Z.ilt s22.2.2.2 (Z.ofN (Z.len s)))then if(Z.Ix s22.2.2.2 (Z.len s))then Z.bnd (Z.get s (Z.toN s22.2.2.2) (0,(0,(([]:List (Int)),())))) fun(x26:Blk)=>
 Z.bind (zW4 (x26.1,(x26.2.1,(x26.2.2.1,())))) fun(x27:Blk)=>
 Z.bnd (Z.app s22.2.2.1 (x27.2.2.1::([]:List (List (Int))))) fun(x28:List (List (Int)))=>
 if(Z.Le (Z.addN s22.1.1 s22.1.2.1) (Z.len s22.2.1))then if(Z.Big (Z.len (Z.seg s22.2.1 s22.1.1 s22.1.2.1)) (Z.len ((x27.1,(x27.2.1,((Z.xrow (Z.len s22.2.2.1) x27.2.2.1),())))::([]:List MBlk))) 40)then none
 else if(Z.Le (Z.addN s22.1.2.1 (Z.len ((x27.1,(x27.2.1,((Z.xrow (Z.len s22.2.2.1) x27.2.2.1),())))::([]:List MBlk)))) s22.1.2.2)then if(Z.Le (Z.addN s22.1.1 (Z.addN s22.1.2.1 (Z.len ((x27.1,(x27.2.1,((Z.xrow (Z.len s22.2.2.1) x27.2.2.1),())))::([]:List MBlk))))) (Z.len s22.2.1))then Z.bnd (Z.put s22.2.1 (Z.addN s22.1.1 s22.1.2.1) ((x27.1,(x27.2.1,((Z.xrow (Z.len s22.2.2.1) x27.2.2.1),())))::([]:List MBlk))) fun(x37:List MBlk)=>
 Z.bnd (Z.wrap .i64 (Z.add s22.2.2.2 1)) fun(x38:Int)=>
 k23 ((s22.1.1,((Z.addN s22.1.2.1 (Z.len ((x27.1,(x27.2.1,((Z.xrow (Z.len s22.2.2.1) x27.2.2.1),())))::([]:List MBlk)))),s22.1.2.2)),(x37,(x28,x38)))
 else none
 else none
 else none
 else none
 else fin s22)) ((0,((Z.toN 0),(Z.toN (Z.ofN (Z.len s))))),(List.replicate s.length noM,(([]:List (List (Int))),0)))=some r:=by
  have hz:=xX3 s;refine zWx (fun(st:((Nat)×((Nat)×(Nat)))×((List MBlk)×((List (List (Int)))×(Int))))=>∃i:Nat,st=((0,(i,s.length)),(rowG (zM s) i,((s.take i).map fun x=>x.2.2.1,(i:Int))))∧i≤s.length) (fun st=>s.length-st.1.2.1) ?_ ⟨0,by show _=((0,(0,s.length)),(rowG (zM s) 0,((s.take 0).map _,(0:Int))));unfold rowG;rw[hz];rfl,Jd _⟩ (yW3 _ _ (by omega))
  rintro st k ⟨i,rfl,hi⟩ hk;dsimp only;by_cases hlt:i<s.length
  · refine zQq (Qu (by simp only[Z.ofN,Z.len];omega)) ?_
    refine zQb (ixN hlt (by omega)) (zQi (getN s hlt _) ?_)
    refine zQh (zZy s[i].1 s[i].2.1 s[i].2.2.1 (hd _ (Ka hlt))) ?_;have hql:((s.take i).map fun x=>x.2.2.1).length=i:=by rw[Qh,Jf];omega
    refine zQi (y:=(s.take (i+1)).map fun x=>x.2.2.1) (by rw[K0 hlt,Qw];rfl) ?_
    have hrl:=vKq (s:=zM s) (i:=i) (by omega)
    refine zQb (by show 0+i≤(rowG (zM s) i).length;omega) ?_
    refine wJb (by rw[vKo (by omega)];show¬2^44<(((zM s).take i).length+1)*(40+1);rw[Jf];omega) ?_
    refine zQb (by show i+1≤s.length;omega) ?_
    refine zQb (by show 0+(i+1)≤(rowG (zM s) i).length;omega) ?_
    refine zQi (y:=rowG (zM s) (i+1)) ?_ ?_
    · refine Eq.trans ?_ (vKp (by omega) (wYz hlt))
      show Z.put _ _ [(s[i].1,(s[i].2.1,(Z.xrow ((s.take i).map fun x=>x.2.2.1).length s[i].2.2.1,())))]=_
      rw[hql]
    refine zQi (zY5 (by omega)) ?_
    exact hk _ ⟨i+1,rfl,hlt⟩ (by show s.length-(i+1)<s.length-i;omega)
  · refine zQs (Qx (by simp only[Z.ofN,Z.len];omega)) ?_
    have e:i=s.length:=by omega
    subst e;have e2:rowG (zM s) s.length=zM s:=by rw[←hz];exact vKr _
    rw[Jj,e2];exact hfin
theorem vJw(s:List Blk)(p:Nat):((zlF 0 s).take p++(zlF 0 s).drop (p+1)).map mkI=(zM s).take p++(zM s).drop (p+1):=by
 unfold zM;rw[Qw,J1,J9]
theorem vJv(B S H W:Int)(s:List Blk)(id:Int)(hl:s.length≤10000):∃Q P d,zXy ((B,(S,(H,(W,())))),(s,id))=some ((Q,P),(d,(dS B S H W s id).2))∧Rp Q P d (dS B S H W s id).1:=by
  rcases(yYp B S H W s).symm with h8|h0
  · refine⟨[],[], .nil, ?_, .inl ⟨rfl,by unfold dS;rw[Qi (by omega)]⟩⟩
    unfold zXy;dsimp only;refine zQh (zWi B S H W s (by omega)) ?_
    refine zQq (by rw[h8];rfl) ?_
    unfold dS;rw[Qi (by omega),h8]
  have hp:=(zJ5.1 (zYh h0).2).2;have hd:=yQ7 h0;have hle:=xZs s id;have hdr:=vXy s id hp;have search:∀{fin:Int×Int→Option (((List (List Int))×(List (List MBlk)))×((MixE MBlk)×Int))} {r},fin (((lbN s id:Nat):Int),((lbN s id:Nat):Int))=some r→Z.loop (fun(s2:(Int)×(Int)) k3=>
 (bif (Z.ilt s2.1 s2.2)then Z.bnd (Z.wrap .i64 (Z.sub s2.2 s2.1)) fun(x4:Int)=>
 if(Z.IsZ 2)then none
 else Z.bnd (Z.wrap .i64 (Z.tdiv x4 2)) fun(x7:Int)=>
 Z.bnd (Z.wrap .i64 (Z.add s2.1 x7)) fun(x8:Int)=>
 if(Z.Ix x8 (Z.len s))then Z.bnd (Z.get s (Z.toN x8) (0,(0,(([]:List (Int)),())))) fun(x11:Blk)=>
 Z.bind (zW3 (x11.1,(x11.2.1,(x11.2.2.1,())))) fun(x12:Int)=>
 (bif (Z.ilt x12 id)then Z.bnd (Z.wrap .i64 (Z.add x8 1)) fun(x13:Int)=>
 k3 (x13,s2.2)
 else k3 (s2.1,x8))
 else none
 else fin s2)) (0,(Z.ofN (Z.len s)))=some r:=fun{fin} {r} hfin=>by
    refine bis (s:=s) (id:=id) (by omega) rfl hp (fun lo hi k hlt hh hm ka kb=>?_) (fun k=>?_)
    · dsimp only
      refine xJa hlt (by omega) ?_
      refine zQb (ixN hm (by omega)) (zQi (getN s hm _) ?_)
      refine zQh (y:=s[lo+(hi-lo)/2].1) rfl ?_;by_cases hs:s[lo+(hi-lo)/2].1<id
      · refine zQq (Qu hs) ?_
        exact zQi (zY5 (by omega)) (ka hs)
      ·exact zQs (Qx hs) (kb hs)
    · dsimp only
      exact zQs (Qx (by omega)) hfin
  have start:∀{r},(∀X,X=zXy ((B,(S,(H,(W,())))),(s,id))→X=some r)→zXy ((B,(S,(H,(W,())))),(s,id))=some r:=fun h=>h _ rfl
  by_cases hhit:(fdS s id).isSome=true
  · have hds:dS B S H W s id=(xJ2 s id,0):=by unfold dS;rw[Qf h0,Qf hhit]
    rw[hds,hdr hhit];generalize hP:lbN s id=p at *;have hlt:p<s.length:=by
      by_cases h:p<s.length
      ·exact h
      ·rw[wJj hp (by omega)]at hhit;simp at hhit
    have he:s[p].1=id:=by
      by_cases h:s[p].1=id
      ·exact h
      ·rw[vJt hp hP hlt h]at hhit;simp at hhit
    refine⟨s.map fun x=>x.2.2.1,[((zlF 0 s).take p++(zlF 0 s).drop (p+1)).map mkI], .ref 0 0 (((zlF 0 s).take p++(zlF 0 s).drop (p+1)).map mkI).length (((zlF 0 s).take p++(zlF 0 s).drop (p+1)).map mkI).length, ?_, .inr ⟨_,rfl,rfl, ?_, ?_⟩⟩
    · rw [vJw]
      unfold zXy;dsimp only;refine zQh (zWi B S H W s (by omega)) ?_
      refine zQs (by rw[h0];rfl) ?_
      refine search ?_;dsimp only;refine zQq (Qu (by simp only[Z.ofN,Z.len];omega)) ?_
      refine zQb (ixN hlt (by omega)) (zQi (getN s hlt _) ?_)
      refine zQh (y:=s[p].1) rfl ?_;refine zQs (by simp[Z.bnot,Z.zQu,Z.ieq,he]) ?_
      refine zQb (Z.zYx.2 ⟨Int.le_refl _,by simp only[Z.ofN,Z.len];omega,by simp only[Z.ofN,Z.len];omega,by simp only[Z.ofN,Z.len];omega⟩) ?_
      refine zQh (wK4 rfl s.length) ?_;refine twinE (by omega) hd ?_
      dsimp only;have hz:=xX3 s;generalize zM s=zm at *;generalize (s.map fun x=>x.2.2.1)=Q
      refine zQi (y:=((p+1:Nat):Int)) (zY5 (by omega)) ?_
      refine iteP (bdN (Qe _)) ?_;refine iteP (by show Z.Bd ((p+1:Nat):Int) s.length;exact bdN (by omega)) ?_
      refine iteP (by show Z.Bd (p:Int) (p+1);exact bdN (by omega)) ?_
      refine iteP (by show p<s.length;exact hlt) ?_
      refine zQs (by simp only[Z.ieq,beq_eq_false_iff_ne];omega) ?_
      refine iteP (bdN hle) ?_;refine iteP (by show 0<s.length;omega) ?_
      refine iteP (by show Z.Bd ((p+1:Nat):Int) s.length;exact bdN (by omega)) ?_
      by_cases h1:p+1<s.length
      · refine iteP (by show p+1<s.length;exact h1) ?_
        have sd:Z.seg zm (Z.addN 0 (Z.toN ((p+1:Nat):Int))) (Z.subN s.length (Z.toN ((p+1:Nat):Int)))=zm.drop (p+1):=by
          show(zm.drop (0+(p+1))).take (s.length-(p+1))=zm.drop (p+1);rw[Jo,Q9 (by rw[J6];omega)]
        rw[sd];have tl:(zm.drop (p+1)).length=s.length-(p+1):=by rw[J6,hz]
        generalize zm.drop (p+1)=t at *;refine iteP (by show 0+(p+1)+(s.length-(p+1))≤zm.length;omega) ?_
        refine iteP (by show 0+0+(p-0)≤zm.length;omega) ?_
        refine iteN (by show¬2^44<(((zm.drop 0).take p).length+t.length)*(40+1);rw[Jf,Jt,tl];omega) ?_
        refine iteP (by show p-0+t.length≤s.length-0;omega) ?_
        refine iteP (by show 0+0+(p-0+t.length)≤zm.length;omega) ?_
        refine zQi (y:=zQd zm p t) (by show zQd zm (0+0+(p-0)) t=zQd zm p t;simp) ?_
        have l1:(zQd zm p t).length=zm.length:=zWa _ _ _ (by omega)
        refine iteP (by show Z.Bd (s.length:Int) (s.length-0);exact bdN (by omega)) ?_
        refine iteP (by show Z.Bd ((p-0+t.length:Nat):Int) s.length;exact bdN (by omega)) ?_
        refine iteP (by show p-0+t.length<s.length-0;omega) ?_
        refine iteP (by show 0+0+(p-0+t.length)+(s.length-(p-0+t.length))≤(zQd zm p t).length;rw[l1];omega) ?_
        refine zQi (y:=zQd (zQd zm p t) (p+t.length) (List.replicate (s.length-(p+t.length)) noM)) (by show zQd (zQd zm p t) (0+0+(p-0+t.length)) (List.replicate (s.length-(p-0+t.length)) noM)=_;simp) ?_
        have l2:(zQd (zQd zm p t) (p+t.length) (List.replicate (s.length-(p+t.length)) noM)).length=zm.length:=by rw[zWa _ _ _ (by rw[Wc,l1];omega),l1]
        refine iteP (by show 0+0=0;rfl) ?_
        refine iteN (by show¬p-0+t.length=(zQd (zQd zm p t) (p+t.length) (List.replicate (s.length-(p+t.length)) noM)).length;rw[l2];omega) ?_
        refine iteP (by show p-0+t.length≤(zQd (zQd zm p t) (p+t.length) (List.replicate (s.length-(p+t.length)) noM)).length;rw[l2];omega) ?_
        have e1:Z.seg (zQd (zQd zm p t) (p+t.length) (List.replicate (s.length-(p+t.length)) noM)) 0 (Z.addN (Z.subN (Z.toN (p:Int)) 0) (Z.len t))=zm.take p++t:=by
          show(List.drop 0 _).take (p-0+t.length)=_;rw[Jt,Nat.sub_zero,xQm _ _ _ (by rw[l1];omega),xYt _ _ _ (by omega)]
        have e2:(zm.take p++t).length=Z.addN (Z.subN (Z.toN (p:Int)) 0) (Z.len t):=by
          show _=p-0+t.length;rw[Q5,Jf];omega
        rw[e1,e2]
      · refine iteN (by show¬p+1<s.length;exact h1) ?_
        refine iteP (by show 0+0+(p-0)≤zm.length;omega) ?_
        refine iteN (by show¬2^44<(((zm.drop 0).take p).length+0)*(40+1);rw[Jf,Jt];omega) ?_
        refine iteP (by show p-0+0≤s.length-0;omega) ?_
        refine iteP (by show 0+0+(p-0+0)≤zm.length;omega) ?_
        refine zQi (y:=zm) (by show zQd zm (0+0+(p-0)) []=zm;simp[zQd]) ?_
        refine iteP (by show Z.Bd (s.length:Int) (s.length-0);exact bdN (by omega)) ?_
        refine iteP (by show Z.Bd ((p-0+0:Nat):Int) s.length;exact bdN (by omega)) ?_
        refine iteP (by show p-0+0<s.length-0;omega) ?_
        refine iteP (by show 0+0+(p-0+0)+(s.length-(p-0+0))≤zm.length;omega) ?_
        refine zQi (y:=zQd zm p (List.replicate (s.length-p) noM)) (by show zQd zm (0+0+(p-0+0)) (List.replicate (s.length-(p-0+0)) noM)=_;simp) ?_
        have l2:(zQd zm p (List.replicate (s.length-p) noM)).length=zm.length:=zWa _ _ _ (by rw[Wc];omega)
        refine iteP (by show 0+0=0;rfl) ?_
        refine iteN (by show¬p-0+0=(zQd zm p (List.replicate (s.length-p) noM)).length;rw[l2];omega) ?_
        refine iteP (by show p-0+0≤(zQd zm p (List.replicate (s.length-p) noM)).length;rw[l2];omega) ?_
        have e1:Z.seg (zQd zm p (List.replicate (s.length-p) noM)) 0 (Z.addN (Z.subN (Z.toN (p:Int)) 0) (Z.len ([]:List MBlk)))=zm.take p++zm.drop (p+1):=by
          show(List.drop 0 _).take (p-0+0)=_;rw[Jt,Ks,Nat.sub_zero,xQm _ _ _ (by omega),Jx (by omega),Jq]
        have e2:(zm.take p++zm.drop (p+1)).length=Z.addN (Z.subN (Z.toN (p:Int)) 0) (Z.len ([]:List MBlk)):=by
          show _=p-0+0;rw[Q5,Jf,J6];omega
        rw[e1,e2]
    ·rw[Qw,J1,J9,xQj]
    · intro x hx
      refine wYw s hd x ?_;rcases Qy.1 hx with hx|hx
      ·exact Kk hx
      ·exact Kv hx
  · have hds:dS B S H W s id=([],6):=by unfold dS;rw[Qf h0,Qi hhit]
    rw[hds];refine⟨[],[], .nil, ?_, .inl ⟨rfl,rfl⟩⟩;unfold zXy;dsimp only;refine zQh (zWi B S H W s (by omega)) ?_
    refine zQs (by rw[h0];rfl) ?_
    refine search ?_;dsimp only;generalize hP:lbN s id=p at *;by_cases hlt:p<s.length
    · refine zQq (Qu (by simp only[Z.ofN,Z.len];omega)) ?_
      refine zQb (ixN hlt (by omega)) (zQi (getN s hlt _) ?_)
      refine zQh (y:=s[p].1) rfl ?_;by_cases he:s[p].1=id
      ·rw[xWy hp hP hlt he]at hhit;simp at hhit
      ·exact zQq (by simp[Z.bnot,Z.zQu,Z.ieq,he]) rfl
    ·exact zQs (Qx (by simp only[Z.ofN,Z.len];omega)) rfl
end Go.Proofs.Ytampmlalpifkoaa
