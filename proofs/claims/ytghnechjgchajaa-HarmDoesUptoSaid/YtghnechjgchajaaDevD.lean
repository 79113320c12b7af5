/- Devices: written, and replayed. -/
import Derived.Test.YtghnechjgchajaaDevC
namespace Go.Proofs.Ytghnechjgchajaa
open Go.Eng
set_option linter.unusedVariables false
set_option linter.unusedSimpArgs false
def wrB(d:List Lev)(level x:Int)(b:Byt):List Lev:=d.set level.toNat ((d.getD level.toNat []).set (x-1).toNat b)
theorem xWm{d:List Lev}{i k:Nat}(hi:i<d.length)(b:Byt):wrB d (i:Int) ((k+1:Nat):Int) b=d.set i (d[i].set k b):=by
 unfold wrB;have e1:(((k+1:Nat):Int)-1).toNat=k:=by omega
 have e2:d.getD (i:Int).toNat []=d[i]:=by simp[List.getD,hi]
 rw[e1,e2];rfl
theorem xJ8{d d':List Lev}(hd:dims d=dims d'){i k:Nat}(hi:i<d.length)(hk:k<d[i].length)(b:Byt)(hb:b.length=d[i][k].length)(hpos:0<b.length):
  Z.XW (qD d') (bkD i d[i] k)∧Z.xput (qD d') (bkD i d[i] k) (Z.take (Z.minN (Z.len b) (Z.xlen (bkD i d[i] k))) b)=qD (wrB d' (i:Int) ((k+1:Nat):Int) b)∧dims d=dims (wrB d' (i:Int) ((k+1:Nat):Int) b):=by
 have hn:=zYu hd;have hi':i<d'.length:=by omega
 have hL:=zKd hd hi hi';have hk':k<d'[i].length:=by have:=yXx hL;omega
 have he:=yJs hL hk hk';obtain⟨w1,w2,w3⟩:=uWu hd hi hi' hk hk' b hb hpos;refine⟨w1, ?_, ?_⟩
 ·rw[w2,xWm hi',←w3]
  show Z.xput _ _ (List.take (min b.length b.length) b)=_;rw[Nat.min_self,Q2]
 ·rw[xWm hi']
  exact xWg hd hi' hk' b (by omega)
def zW5(d:List Lev)(x:SeeT):Prop:=(x.1=1∨x.1=2)∧plD d x.2.1 [x.2.2.1]∧x.2.2.2.1.length=(bkt d x.2.1 x.2.2.1).length
open Classical in
noncomputable def yXj(d:List Lev)(x:SeeT):Bool:=decide (zW5 d x)
open Classical in
theorem xWa{d:List Lev}{x:SeeT}(h:zW5 d x):yXj d x=true:=by unfold yXj;exact decide_eq_true h
open Classical in
theorem zYs{d:List Lev}{x:SeeT}(h:¬zW5 d x):yXj d x=false:=by unfold yXj;exact decide_eq_false h
theorem wQ0(d:List Lev)(x:SeeT)(hl:d.length≤1000000000)(hL:∀L∈d,L.length≤100000000):xWh ((d,()),x)=some (yXj d x):=by
  unfold xWh;have rest:(x.1=1∨x.1=2)→(if(Z.Le (Z.addN 0 1) (Z.len (x.2.2.1::([]:List (Int)))))then Z.bind (zJu ((d,()),(x.2.1,(Z.seg (x.2.2.1::([]:List (Int))) 0 1)))) fun(x3:Bool)=>
 (bif (Z.zQi false true (Z.bnot x3))then some false
 else if(Z.Ix x.2.1 (Z.len d))then Z.bnd (Z.get d (Z.toN x.2.1) ([]:List (List (Int)))) fun(x6:List (List (Int)))=>
 Z.bnd (Z.wrap .i64 (Z.sub x.2.2.1 1)) fun(x7:Int)=>
 if(Z.Ix x7 (Z.len x6))then Z.bnd (Z.get x6 (Z.toN x7) ([]:List (Int))) fun(x10:List (Int))=>
 some (Z.ieq (Z.ofN (Z.len x.2.2.2.1)) (Z.ofN (Z.len x10)))
 else none
 else none)
 else none)=some (yXj d x):=fun hk=>by
    refine zQa (Qg _) ?_;refine zQm (xZj d x.2.1 [x.2.2.1] hl (by simp)) ?_
    by_cases hp:plD d x.2.1 [x.2.2.1]
    · rw[wKd hp]
      refine zQd rfl ?_;obtain⟨i,hi,hie,hat⟩:=xQ4 hp;obtain⟨k,hk2,hke⟩:=hat 0 (by simp)
      replace hke:x.2.2.1=((k+1:Nat):Int):=hke;have hLi:=hL _ (Qh hi);have hbk:bkt d x.2.1 x.2.2.1=d[i][k]:=by rw[hie,hke,zYv hi hk2]
      rw[hie,hke];refine zQa (ixND hi) (zQb (zWg d hi _) ?_);refine zQb (sub1 (by omega)) ?_
      refine zQa (ixND hk2) (zQb (zWg d[i] hk2 _) ?_);by_cases he:x.2.2.2.1.length=d[i][k].length
      · rw[xWa ⟨hk,hp,by rw[hbk];exact he⟩]
        simp[Z.ieq,Z.ofN,Z.len,he]
      · rw[zYs fun h=>he (by rw[←hbk];exact h.2.2)]
        simp only[Z.ieq,Z.ofN,Z.len];simp;omega
    · rw[yK3 hp,zYs fun h=>hp h.2.1]
      exact zQe rfl rfl
  by_cases h1:x.1=1
  · refine zQd (by simp[Z.ine,h1]) ?_
    exact rest (.inl h1)
  · refine zQe (by simp[Z.ine,h1]) ?_
    by_cases h2:x.1=2
    · refine zQd (by simp[Z.zQi,Z.ine,h2]) ?_
      exact rest (.inr h2)
    · refine zQe (by simp[Z.zQi,Z.ine,h2]) ?_
      rw[zYs fun h=>by rcases h.1 with h|h<;>contradiction]
def reps(d:List Lev)(l:List SeeT):List Lev:=l.foldl (fun d x=>if x.1=2 then wrB d x.2.1 x.2.2.1 x.2.2.2.1 else d) d
open Classical in
noncomputable def repD(c:CfgT)(d:List Lev)(l:List SeeT):(List Lev×Unit)×Int:=
 if zZs c d then(if∀x∈l,zW5 d x then((reps d l,()),0)else(([],()),2))else(([],()),8)
end Go.Proofs.Ytghnechjgchajaa
