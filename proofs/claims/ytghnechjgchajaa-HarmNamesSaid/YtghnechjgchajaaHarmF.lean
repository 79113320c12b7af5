/- Harms: the chapter's examples. -/
import Derived.Test.YtghnechjgchajaaHarmC
namespace Go.Proofs.Ytghnechjgchajaa
open Go.Eng
set_option linter.unusedVariables false
set_option linter.unusedSimpArgs false
def c1:CfgT:=(2,(1,(2,(1,(4,(1,(1,(1,(2,())))))))))
theorem uXa:yWa ()=some c1:=rfl
theorem may1:mayB c1=true:=by decide
theorem sh1:shS c1=[(3,(81,()))]:=by rfl
theorem nw1:nwS c1=[List.replicate 3 (List.replicate 81 0)]:=by
 unfold nwS;rw[sh1];rfl
theorem yJo(b:Int):zXa b=some (List.replicate 81 b):=by
 unfold zXa;refine zQa (Z.zKt.2 ⟨by omega,Int.le_refl _,by omega,by omega⟩) ?_
 refine zWd (fun(s:Int×List Int)=>∃i:Nat,i≤81∧s=((i:Int),(List.replicate 81 b).take i++List.replicate ((List.replicate 81 b).length-i) 0)) (fun s=>81-s.1.toNat) ?_ ⟨0,by omega,by rw[List.length_replicate];rfl⟩ (zJy 81 _ (by omega))
 ·rintro s k ⟨i,hi,rfl⟩ hk
  dsimp only;by_cases h:i<81
  ·refine zQt (decide_eq_true (by simp only[Z.ofN,Z.toN];omega)) ?_
   refine zQa ⟨by omega,by show(i:Int)<((81:Int).toNat:Int);omega⟩ ?_
   refine zQa (by show 0+i<_;simp;omega) ?_
   refine zQd (y:=(List.replicate 81 b).take (i+1)++List.replicate ((List.replicate 81 b).length-(i+1)) 0) ?_ ?_
   ·show List.set _ (0+i) b=_
    rw[Jt];have e:=xZ2 (List.replicate 81 b) (i:=i) (by simpa using h) 0
    rw[List.getElem_replicate]at e;exact e
   refine zQd (zX6 (by omega)) ?_
   exact hk _ ⟨i+1,h,rfl⟩ (by show 81-((i+1:Nat):Int).toNat<81-((i:Int)).toNat;omega)
  ·refine zQo (decide_eq_false (by simp only[Z.ofN,Z.toN];omega)) ?_
   have hi2:i=81:=by omega
   subst hi2;rw[Qm (by simp),List.length_replicate,Nat.sub_self,List.replicate_zero,Je]
   refine zQa (by show 0+(81:Int).toNat≤(List.replicate 81 b).length;simp) ?_
   rfl
def d1:List Lev:=[[List.replicate 81 121,List.replicate 81 0,List.replicate 81 0]]
def l1:List SeeT:=[(2,(0,(1,(List.replicate 81 120,())))),(2,(0,(1,(List.replicate 81 121,()))))]
theorem wr1ok:wrOk (nwS c1) 0 [1,1] [List.replicate 81 120,List.replicate 81 121]:=by
 rw[nw1];refine⟨⟨⟨by decide,by decide⟩,fun x hx=>?_⟩,rfl,fun q h h'=>?_⟩
 ·show 1≤x∧x≤3
  simp at hx;omega
 ·match q,h,h' with
  |0,_,_=>rfl
  |1,_,_=>rfl
theorem wr1:wrs (nwS c1) 0 [1,1] [List.replicate 81 120,List.replicate 81 121]=d1:=by
 rw[nw1];rfl
theorem ok1:zK0 c1 d1:=by
 have h:=uXb (vZd (vQt may1) wr1ok) (vQt may1)
 rwa [wr1]at h
theorem all1:∀x∈l1,zZj d1 x:=by
 intro x hx;have h:x=l1[0]∨x=l1[1]:=by
  unfold l1 at hx⊢;rcases Jh.1 hx with h|h
  ·exact .inl h
  ·rcases Jh.1 h with h|h
   ·exact .inr h
   ·simp at h
 rcases h with rfl|rfl
 ·exact⟨.inr rfl,⟨⟨by decide,by decide⟩,fun y hy=>by
   rw[List.mem_singleton]at hy;subst hy;exact⟨by decide,by decide⟩⟩,rfl⟩
 ·exact⟨.inr rfl,⟨⟨by decide,by decide⟩,fun y hy=>by
   rw[List.mem_singleton]at hy;subst hy;exact⟨by decide,by decide⟩⟩,rfl⟩
def fst1:Option (List Lev)→Byt×Int
 |some y=>(bkt y 0 1,0)
 |none=>([],2)
theorem vWn(h:xJt):zXd h=some (fst1 (hrm c1 d1 l1 h)):=by
 unfold zXd;refine zQs uXa (zQs (xZc c1) ?_);refine zQs uXa (zQs (yJo 120) (zQs (yJo 121) ?_));refine zQa (Qf _) (zQa (Qf _) ?_);have en:newD c1=((nwS c1,()),0):=if_pos may1
 rw[en];have b0:(nwS c1).length≤1000000000∧∀L∈nwS c1,L.length≤1000000000:=by
  rw[nw1];exact⟨by decide,fun L hL=>by rw[List.mem_singleton.1 hL];decide⟩
 refine zQs (xXb c1 (nwS c1) 0 [1,1] [List.replicate 81 120,List.replicate 81 121] b0.1 b0.2 (by decide) (by decide)) ?_
 have ew:wrD c1 (nwS c1) 0 [1,1] [List.replicate 81 120,List.replicate 81 121]=((d1,()),(l1,0)):=by
  unfold wrD;rw[if_pos (vQt may1),if_pos wr1ok,wr1];rfl
 rw[ew];refine zQs uXa ?_;refine zQs (wJg c1 d1 l1 h (by decide) (fun L hL=>by rw[List.mem_singleton.1 hL];decide) (by decide)) ?_
 have eh:hrmD c1 d1 l1 h=hrmA (hrm c1 d1 l1 h):=by
  unfold hrmD;rw[if_pos ok1,if_pos all1]
 rw[eh];cases hh:hrm c1 d1 l1 h with
 |none=>exact zQo rfl (zQo rfl (zQt rfl rfl))
 | some y=>
  have hd:=vKh ok1 all1 hh;have hl:=zJg hd;have hl1:y.length=1:=by rw[←hl];rfl
  match y,hl1 with
  | [L],_=>
   have hL:=yWn (zKc hd (i:=0) (by decide) (Nat.zero_lt_one))
   have hL3:L.length=3:=hL.symm
   match L,hL3 with
   |[a,b,c],_=>
    refine zQo rfl (zQo rfl (zQo rfl (zQo rfl ?_)));refine zQa ⟨by decide,Nat.zero_lt_one⟩ (zQd (y:=[a,b,c]) rfl ?_)
    refine zQo rfl ?_;refine zQa ⟨by decide,Nat.zero_lt_one⟩ (zQd (y:=[a,b,c]) rfl ?_)
    refine zQa ⟨by decide,Nat.zero_lt_succ 2⟩ (zQd (y:=a) rfl ?_)
    rfl
theorem yXc(h:xJt)(w:Byt){y:List Lev}(hh:hrm c1 d1 l1 h=some y)(hw:bkt y 0 1=w):zQ5 (h,w)=some true:=by
 unfold zQ5;dsimp only;refine zQs (vWn h) ?_;rw[hh];refine zQt rfl ?_;refine zQs (xZ5 _ _) ?_;show some (Z.zQh true (decide (Z.str (bkt y 0 1)=Z.str w)) false)=some true
 rw[hw,decide_eq_true rfl];rfl
theorem vYd:vers l1 0 1=[List.replicate 81 120,List.replicate 81 121]:=by decide
theorem wrL1:wrL l1=l1:=by decide
theorem xJ9:plD d1 0 [1]:=pl1.2 ⟨0,by decide,0,by decide,rfl,rfl⟩
theorem vJ3(n:Nat)(hn:n≤2)(lv A B:Int)(m:Int):hrm c1 d1 l1 (5,(lv,(A,(B,((n:Int),(m,()))))))=some (reps (nwS c1) (l1.take n)):=by
 unfold hrm;rw[if_pos rfl,wrL1,if_pos ⟨by show 0≤(n:Int);omega,by show(n:Int)≤2;omega⟩];rfl
theorem uZp:zWv ()=some true:=by
 unfold zWv;refine zQs (yJo 120) ?_;refine zQs (yXc (3,(0,(1,(0,(0,(0,())))))) _ (y:=wrB d1 0 1 (List.replicate 81 120)) ?_ rfl) ?_
 ·rw[yWf c1 d1 l1 (3,(0,(1,(0,(0,(0,())))))) (by decide) xJ9,if_neg (by decide),if_neg (by decide),if_neg (by decide),if_pos rfl]
  rw[show vers l1 (0:Int) 1=_ from vYd,if_pos ⟨by decide,by decide⟩];rfl
 refine zQt rfl ?_;refine zQs (yJo 120) ?_;refine zQs (yXc (4,(0,(1,(0,(0,(0,())))))) _ (y:=wrB d1 0 1 (List.replicate 81 120)) ?_ rfl) ?_
 ·rw[yWf c1 d1 l1 (4,(0,(1,(0,(0,(0,())))))) (by decide) xJ9,if_neg (by decide),if_neg (by decide),if_pos rfl]
  rw[show vers l1 (0:Int) 1=_ from vYd,if_neg (by decide),if_pos (by decide)];rfl
 refine zQt rfl ?_;refine zQs (yJo 120) ?_;refine zQs (yXc (5,(0,(0,(0,(1,(0,())))))) _ (vJ3 1 (by decide) 0 0 0 0) ?_) ?_
 ·rw[nw1];rfl
 rfl
end Go.Proofs.Ytghnechjgchajaa
