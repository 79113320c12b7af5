/- Harms: the chapter's examples. -/
import Derived.Test.YtghnechjgchajaaHarmC
namespace Go.Proofs.Ytghnechjgchajaa
open Go.Eng
set_option linter.unusedVariables false
set_option linter.unusedSimpArgs false
def c1:CfgT:=(2,(1,(2,(1,(4,(1,(1,(1,(2,())))))))))
theorem uZs:yWt ()=some c1:=rfl
theorem may1:mayB c1=true:=by decide
theorem sh1:shS c1=[(3,(81,()))]:=by rfl
theorem nw1:nwS c1=[List.replicate 3 (List.replicate 81 0)]:=by
 unfold nwS;rw[sh1];rfl
theorem xYr(b:Int):zZ0 b=some (List.replicate 81 b):=by
 unfold zZ0;refine zQa (Z.zKl.2 ⟨by omega,Int.le_refl _,by omega,by omega⟩) ?_
 refine zQx (fun(s:Int×List Int)=>∃i:Nat,i≤81∧s=((i:Int),(List.replicate 81 b).take i++List.replicate ((List.replicate 81 b).length-i) 0)) (fun s=>81-s.1.toNat) ?_ ⟨0,by omega,by rw[List.length_replicate];rfl⟩ (zZ3 81 _ (by omega))
 ·rintro s k ⟨i,hi,rfl⟩ hk
  dsimp only;by_cases h:i<81
  ·refine zQl (decide_eq_true (by simp only[Z.ofN,Z.toN];omega)) ?_
   refine zQa ⟨by omega,by show(i:Int)<((81:Int).toNat:Int);omega⟩ ?_
   refine zQa (by show 0+i<_;simp;omega) ?_
   refine zQc (y:=(List.replicate 81 b).take (i+1)++List.replicate ((List.replicate 81 b).length-(i+1)) 0) ?_ ?_
   ·show List.set _ (0+i) b=_
    rw[Ju];have e:=xKu (List.replicate 81 b) (i:=i) (by simpa using h) 0
    rw[List.getElem_replicate]at e;exact e
   refine zQc (zWx (by omega)) ?_
   exact hk _ ⟨i+1,h,rfl⟩ (by show 81-((i+1:Nat):Int).toNat<81-((i:Int)).toNat;omega)
  ·refine zQg (decide_eq_false (by simp only[Z.ofN,Z.toN];omega)) ?_
   have hi2:i=81:=by omega
   subst hi2;rw[Qg (by simp),List.length_replicate,Nat.sub_self,List.replicate_zero,Jg]
   refine zQa (by show 0+(81:Int).toNat≤(List.replicate 81 b).length;simp) ?_
   rfl
def d1:List Lev:=[[List.replicate 81 121,List.replicate 81 0,List.replicate 81 0]]
def l1:List SeeT:=[(2,(0,(1,(List.replicate 81 120,())))),(2,(0,(1,(List.replicate 81 121,()))))]
theorem wr1ok:wrOk (nwS c1) 0 [1,1] [List.replicate 81 120,List.replicate 81 121]:=by
 rw[nw1];refine⟨⟨⟨by decide,by decide⟩,fun x hx=>?_⟩,rfl,fun q h h'=>?_⟩
 ·show 1≤x∧x≤3
  simp at hx;omega
 ·match q,h,h' with
  |0,_,_=>rfl
  |1,_,_=>rfl
theorem wr1:wrs (nwS c1) 0 [1,1] [List.replicate 81 120,List.replicate 81 121]=d1:=by
 rw[nw1];rfl
theorem ok1:zZl c1 d1:=by
 have h:=wW9 (vKf (wXa may1) wr1ok) (wXa may1)
 rwa [wr1]at h
theorem all1:∀x∈l1,zXc d1 x:=by
 intro x hx;have h:x=l1[0]∨x=l1[1]:=by
  unfold l1 at hx⊢;rcases Jf.1 hx with h|h
  ·exact .inl h
  ·rcases Jf.1 h with h|h
   ·exact .inr h
   ·simp at h
 rcases h with rfl|rfl
 ·exact⟨.inr rfl,⟨⟨by decide,by decide⟩,fun y hy=>by
   rw[List.mem_singleton]at hy;subst hy;exact⟨by decide,by decide⟩⟩,rfl⟩
 ·exact⟨.inr rfl,⟨⟨by decide,by decide⟩,fun y hy=>by
   rw[List.mem_singleton]at hy;subst hy;exact⟨by decide,by decide⟩⟩,rfl⟩
def fst1:Option (List Lev)→Byt×Int
 |some y=>(bkt y 0 1,0)
 |none=>([],2)
theorem uKl(h:xYk):yQn h=some (fst1 (hrm c1 d1 l1 h)):=by
 unfold yQn;refine zQt uZs (zQt (yJz c1) ?_);refine zQt uZs (zQt (xYr 120) (zQt (xYr 121) ?_));refine zQa (Qf _) (zQa (Qf _) ?_);have en:newD c1=((nwS c1,()),0):=if_pos may1
 rw[en];have b0:(nwS c1).length≤1000000000∧∀L∈nwS c1,L.length≤1000000000:=by
  rw[nw1];exact⟨by decide,fun L hL=>by rw[List.mem_singleton.1 hL];decide⟩
 refine zQt (xX1 c1 (nwS c1) 0 [1,1] [List.replicate 81 120,List.replicate 81 121] b0.1 b0.2 (by decide) (by decide)) ?_
 have ew:wrD c1 (nwS c1) 0 [1,1] [List.replicate 81 120,List.replicate 81 121]=((d1,()),(l1,0)):=by
  unfold wrD;rw[if_pos (wXa may1),if_pos wr1ok,wr1];rfl
 rw[ew];refine zQt uZs ?_;refine zQt (yJt c1 d1 l1 h (by decide) (fun L hL=>by rw[List.mem_singleton.1 hL];decide) (by decide)) ?_
 have eh:hrmD c1 d1 l1 h=hrmA (hrm c1 d1 l1 h):=by
  unfold hrmD;rw[if_pos ok1,if_pos all1]
 rw[eh];cases hh:hrm c1 d1 l1 h with
 |none=>exact zQg rfl (zQg rfl (zQl rfl rfl))
 | some y=>
  have hd:=vJj ok1 all1 hh;have hl:=zKg hd;have hl1:y.length=1:=by rw[←hl];rfl
  match y,hl1 with
  | [L],_=>
   have hL:=zYm (zZg hd (i:=0) (by decide) (Nat.zero_lt_one))
   have hL3:L.length=3:=hL.symm
   match L,hL3 with
   |[a,b,c],_=>
    refine zQg rfl (zQg rfl (zQg rfl (zQg rfl ?_)));refine zQa ⟨by decide,Nat.zero_lt_one⟩ (zQc (y:=[a,b,c]) rfl ?_)
    refine zQg rfl ?_;refine zQa ⟨by decide,Nat.zero_lt_one⟩ (zQc (y:=[a,b,c]) rfl ?_)
    refine zQa ⟨by decide,Nat.zero_lt_succ 2⟩ (zQc (y:=a) rfl ?_)
    rfl
theorem xJi(h:xYk)(w:Byt){y:List Lev}(hh:hrm c1 d1 l1 h=some y)(hw:bkt y 0 1=w):zZ1 (h,w)=some true:=by
 unfold zZ1;dsimp only;refine zQt (uKl h) ?_;rw[hh];refine zQl rfl ?_;refine zQt (zJg _ _) ?_;show some (Z.zQs true (decide (Z.str (bkt y 0 1)=Z.str w)) false)=some true
 rw[hw,decide_eq_true rfl];rfl
theorem vers1:vers l1 0 1=[List.replicate 81 120,List.replicate 81 121]:=by decide
theorem wrL1:wrL l1=l1:=by decide
theorem plOne:plD d1 0 [1]:=pl1.2 ⟨0,by decide,0,by decide,rfl,rfl⟩
theorem crash1(n:Nat)(hn:n≤2)(lv A B:Int)(m:Int):hrm c1 d1 l1 (5,(lv,(A,(B,((n:Int),(m,()))))))=some (reps (nwS c1) (l1.take n)):=by
 unfold hrm;rw[if_pos rfl,wrL1,if_pos ⟨by show 0≤(n:Int);omega,by show(n:Int)≤2;omega⟩];rfl
theorem uK7:yQo ()=some true:=by
 unfold yQo;refine zQt (xYr 120) ?_;refine zQt (xJi (3,(0,(1,(0,(0,(0,())))))) _ (y:=wrB d1 0 1 (List.replicate 81 120)) ?_ rfl) ?_
 ·rw[wKx c1 d1 l1 (3,(0,(1,(0,(0,(0,())))))) (by decide) plOne,if_neg (by decide),if_neg (by decide),if_neg (by decide),if_pos rfl]
  rw[show vers l1 (0:Int) 1=_ from vers1,if_pos ⟨by decide,by decide⟩];rfl
 refine zQl rfl ?_;refine zQt (xYr 120) ?_;refine zQt (xJi (4,(0,(1,(0,(0,(0,())))))) _ (y:=wrB d1 0 1 (List.replicate 81 120)) ?_ rfl) ?_
 ·rw[wKx c1 d1 l1 (4,(0,(1,(0,(0,(0,())))))) (by decide) plOne,if_neg (by decide),if_neg (by decide),if_pos rfl]
  rw[show vers l1 (0:Int) 1=_ from vers1,if_neg (by decide),if_pos (by decide)];rfl
 refine zQl rfl ?_;refine zQt (xYr 120) ?_;refine zQt (xJi (5,(0,(0,(0,(1,(0,())))))) _ (crash1 1 (by decide) 0 0 0 0) ?_) ?_
 ·rw[nw1];rfl
 rfl
theorem vKp(l:List SeeT):∃g,zZ9 l=some g∧(g=false→l.length≤2000):=by
 refine⟨decide (2000<l.length)||decide (200000<sumS l 2000), ?_,fun h=>by
  rw[Bool.or_eq_false_iff]at h;have h2:=of_decide_eq_false h.1;omega⟩
 unfold zZ9;have fin:∀n:Nat,n=sumS l 2000→(bif (Z.igt (Z.ofN (Z.len l)) 2000)then some true else some (Z.zQs false true (Z.igt (n:Int) 200000)))=some (decide (2000<l.length)||decide (200000<sumS l 2000)):=fun n hn=>by
  by_cases h:2000<l.length
  ·rw[decide_eq_true h]
   exact zQl (by simp only[Z.igt,Z.ofN,Z.len];exact decide_eq_true (by omega)) rfl
  ·rw[decide_eq_false h]
   refine zQg (by simp only[Z.igt,Z.ofN,Z.len];exact decide_eq_false (by omega)) ?_
   rw[show Z.zQs false true (Z.igt (n:Int) 200000)=decide ((n:Int)>200000)from rfl,Bool.false_or,hn]
   congr 1;exact decide_eq_decide.2 (by omega)
 refine zQx (fun(s:Int×Int)=>∃i:Nat,i≤l.length∧i≤2000∧s=((sumS l i:Int),(i:Int))) (fun s=>2000-s.2.toNat) ?_ ⟨0,Jd _,by omega,rfl⟩ (zZ3 2000 _ (by omega))
 rintro s k ⟨i,hi,hi2,rfl⟩ hk;dsimp only;by_cases h:i<l.length
 ·refine zQl (decide_eq_true (by simp only[Z.ofN,Z.len];omega)) ?_
  by_cases h2:i<2000
  ·refine zQl (by simp[Z.zQs,Z.ilt];omega) ?_
   refine zQa (ixND h) (zQc (zXf l h _) ?_);have e:=xYs l h;have b:=vQk l i;rw[min_i];refine zQc (y:=((sumS l (i+1):Nat):Int)) ((yX8 (by simp only[Z.add];omega)).trans (by simp only[Z.add];omega)) ?_
   refine zQc (zWx (by omega)) ?_
   exact hk _ ⟨i+1,h,h2,rfl⟩ (by show 2000-((i+1:Nat):Int).toNat<2000-((i:Int)).toNat;omega)
  ·refine zQg (by simp[Z.zQs,Z.ilt];omega) ?_
   have:i=2000:=by omega
   subst this;exact fin _ rfl
 ·refine zQg (decide_eq_false (by simp only[Z.ofN,Z.len];omega)) ?_
  refine fin _ ?_;unfold sumS;rw[Qg (by omega),Qg (by omega)]
end Go.Proofs.Ytghnechjgchajaa
