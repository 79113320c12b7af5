/- Devices: written, and replayed. -/
import Derived.Test.YtnbmjkbbppcbcaaDevC
namespace Go.Proofs.Ytnbmjkbbppcbcaa
open Go.Eng
set_option linter.unusedVariables false
set_option linter.unusedSimpArgs false
def wrB (d : List Lev) (level x : Int) (b : Byt) : List Lev:=d.set level.toNat ((d.getD level.toNat []).set (x - 1).toNat b)
def wrs (d : List Lev) (level : Int) (at_ : List Int) (all : List Byt) : List Lev:=(List.zip at_ all).foldl (fun d p=>wrB d level p.1 p.2) d
theorem xXk (d : List Lev) (level : Int) {at_ : List Int} {all : List Byt} {q : Nat} (h1 : q < at_.length) (h2 : q < all.length) : wrs d level (at_.take (q+1)) (all.take (q+1))=wrB (wrs d level (at_.take q) (all.take q)) level at_[q] all[q]:=by
 unfold wrs
 rw [Q2 h1,Q2 h2,List.zip_append (by simp; omega),List.foldl_append]
 rfl
theorem wKg {d : List Lev} {i k : Nat} (hi : i < d.length) (b : Byt) : wrB d (i : Int) ((k+1 : Nat) : Int) b=d.set i (d[i].set k b):=by
 unfold wrB
 have e1 : (((k+1 : Nat) : Int) - 1).toNat=k:=by omega
 have e2 : d.getD (i : Int).toNat []=d[i]:=by simp [List.getD,hi]
 rw [e1,e2]; rfl
def wrOk (d : List Lev) (level : Int) (at_ : List Int) (all : List Byt) : Prop:=plD d level at_∧all.length=at_.length∧∀ (q : Nat) (h : q < at_.length) (h' : q < all.length),all[q].length=(bkt d level at_[q]).length
open Classical in
noncomputable def wrD (c : CfgT) (d : List Lev) (level : Int) (at_ : List Int) (all : List Byt) : (List Lev×Unit)×(List SeeT×Int) :=
 if zY6 c d then (if wrOk d level at_ all then ((wrs d level at_ all,()),(zY5 2 level at_ all,0)) else (([],()),([],2))) else (([],()),([],8))
theorem vWf {d d' : List Lev} (hd : dims d = dims d') {i k : Nat} (hi : i < d.length) (hk : k < d[i].length) (b : Byt) (hb : b.length = d[i][k].length) (hpos : 0 < b.length) :
  Z.XW (qD d') (bkD i d[i] k)∧Z.xput (qD d') (bkD i d[i] k) (Z.take (Z.minN (Z.len b) (Z.xlen (bkD i d[i] k))) b)=qD (wrB d' (i : Int) ((k+1 : Nat) : Int) b)∧dims d=dims (wrB d' (i : Int) ((k+1 : Nat) : Int) b):=by
 have hn:=yZj hd
 have hi' : i < d'.length:=by omega
 have hL:=zYr hd hi hi'
 have hk' : k < d'[i].length:=by have:=yY6 hL; omega
 have he:=yJr hL hk hk'
 obtain ⟨w1,w2,w3⟩:=vX9 hd hi hi' hk hk' b hb hpos
 refine ⟨w1, ?_, ?_⟩
 ·rw [w2, wKg hi', ← w3]
  show Z.xput _ _ (List.take (min b.length b.length) b)=_
  rw [Nat.min_self,Jc]
 ·rw [wKg hi']
  exact wXj hd hi' hk' b (by omega)
theorem yW0 (c : CfgT) (d : List Lev) (level : Int) (at_ : List Int) (all : List Byt) (hl : d.length≤1000000000) (hL : ∀ L∈d,L.length≤1000000000) (ha : at_.length≤1000000) (hb : all.length≤1000000) : yQ1 (c,((d,()),(level,(at_,all))))=some (wrD c d level at_ all):=by
 unfold yQ1
 dsimp only
 refine zQ1 (zJl c d hl hL) ?_
 unfold wrD
 rcases vQd c d with ⟨h0,hok⟩ | ⟨h8,hno⟩
 ·rw [h0, if_pos hok]
  refine zQt rfl ?_
  refine zQ1 (yQ0 d level at_ hl (by omega)) ?_
  by_cases hp : plD d level at_
  ·rw [vYv hp]
   refine zQt rfl ?_
   by_cases hlen : all.length=at_.length
   ·refine zQt (by simp [Z.zQ8, Z.ine, Z.ofN, Z.len, hlen]) ?_
    obtain ⟨i,hi,rfl,hat⟩:=xX5 hp
    obtain ⟨b1,b2⟩:=yJs hok
    have b3:=b2 _ (Jb hi)
    refine zQ4 (fun (s : Int)=>∃ q : Nat,s=(q : Int)∧q≤at_.length∧∀ (j : Nat) (h : j < at_.length) (h' : j < all.length),j < q→all[j].length=(bkt d (i : Int) at_[j]).length) (fun s=>at_.length - s.toNat) ?_ ⟨0,rfl,Jm _,fun _ _ _ h=>absurd h (Nat.not_lt_zero _)⟩ (zKu _ _ (by omega))
    rintro s k ⟨q,rfl,hq,hqq⟩ hk
    by_cases hlt : q < at_.length
    ·have hlt' : q < all.length := by omega
     obtain ⟨x,hx,hxe⟩:=hat q hlt
     have hbk : bkt d (i : Int) at_[q]=d[i][x]:=by rw [hxe,wXp hi hx]
     refine zQs (decide_eq_true (by simp only [Z.ofN,Z.len]; omega)) ?_
     refine zQb (ixND hlt) (zQf ((zZa at_ hlt _).trans hxe) ?_)
     refine zQb (ixND hlt') (zQf (zZa all hlt' _) ?_)
     refine zQb (ixND hi) (zQf (zZa d hi _) ?_)
     refine zQf (sub1 (by omega)) ?_
     refine zQb (ixND hx) (zQf (zZa d[i] hx _) ?_)
     by_cases he : all[q].length=d[i][x].length
     ·refine zQt (by simp [Z.ine, Z.ofN, Z.len, he]) ?_
      refine zQf (zXx (by omega)) ?_
      refine hk _ ⟨q+1,rfl,hlt,fun j hj hj' hji=>?_⟩ (by show at_.length - ((q+1 : Nat) : Int).toNat < at_.length - ((q : Int)).toNat; omega)
      by_cases e : j=q
      ·subst e; rw [hbk]; exact he
      ·exact hqq j hj hj' (by omega)
     ·refine zQs (by simp only [Z.ine, Z.ofN, Z.len, bne_iff_ne, ne_eq]; omega) ?_
      rw [if_neg fun h=>he (by rw [← hbk]; exact h.2.2 q hlt hlt')]
    ·refine zQt (decide_eq_false (by simp only [Z.ofN, Z.len]; omega)) ?_
     have hw : wrOk d (i : Int) at_ all:=⟨hp,hlen,fun j h h'=>hqq j h h' (by omega)⟩
     rw [if_pos hw]
     clear hk hqq
     refine zQ1 (yY7 d (uQ0 hok)) ?_
     refine zQb rfl ?_
     refine zQ4 (fun (s : Int×(List SeeT×List Byt))=>∃ q : Nat,q≤at_.length∧s=((q : Int),(zY5 2 (i : Int) (at_.take q) (all.take q),qD (wrs d (i : Int) (at_.take q) (all.take q))))∧dims d=dims (wrs d (i : Int) (at_.take q) (all.take q))) (fun s=>at_.length - s.1.toNat) ?_ ⟨0,Jm _,rfl,rfl⟩ (zKu _ _ (by omega))
     rintro s k ⟨q,hq,rfl,hd⟩ hk
     dsimp only
     by_cases hlt : q < at_.length
     ·have hlt' : q < all.length := by omega
      obtain ⟨x,hx,hxe⟩:=hat q hlt
      have hbk : bkt d (i : Int) at_[q]=d[i][x]:=by rw [hxe,wXp hi hx]
      have hlq:=hw.2.2 q hlt hlt'
      rw [hbk] at hlq
      have hbl:=b3.2 _ (Jb hx)
      refine zQs (decide_eq_true (by simp only [Z.ofN,Z.len]; omega)) ?_
      refine zQb (ixND hlt) (zQf ((zZa at_ hlt _).trans hxe) ?_)
      refine zQb (ixND hlt') (zQf (zZa all hlt' _) ?_)
      obtain ⟨p1,p2,p3⟩:=lev_pt hi
      refine zQb p1 (zQb p2 (zQb p2 (zQf p3 ?_)))
      refine zQf (sub1 (by omega)) ?_
      obtain ⟨q1,q2,q3⟩:=uWb hi hx
      refine zQb q1 (zQb q2 (zQb q2 (zQf q3 ?_)))
      obtain ⟨w1,w2,w3⟩:=vWf hd hi hx all[q] (by omega) (by omega)
      refine zQb w1 (zQf w2 ?_)
      refine zQ1 (yKo _ (by omega)) ?_
      refine zQb (Qf _) ?_
      have t2 : (zY5 2 (i : Int) (at_.take q) (all.take q)).length=q:=by simp [zY5]; omega
      refine zKb (bigD (by simp only [Z.len]; omega) (by show 1≤2000000; omega) (by omega)) ?_
      refine zQb rfl ?_
      have hs:=xXk d (i : Int) hlt hlt'
      rw [hxe] at hs
      refine zQf (y:=zY5 2 (i : Int) (at_.take (q+1)) (all.take (q+1))) ?_ ?_
      ·show _ ++ [(2, ((i : Int), (((x + 1 : Nat) : Int), (all[q], ()))))] = _
       rw [xK0 hlt hlt',hxe]
      refine zQf (zXx (by omega)) ?_
      refine zQb rfl ?_
      rw [← hs]
      exact hk _ ⟨q+1,hlt,rfl,by rw [hs]; exact w3⟩ (by show at_.length - ((q+1 : Nat) : Int).toNat < at_.length - ((q : Int)).toNat; omega)
     ·refine zQt (decide_eq_false (by simp only [Z.ofN, Z.len]; omega)) ?_
      rw [Qi (by omega),Qi (by omega)] at hd ⊢
      obtain ⟨v1,v2⟩:=vXv hd
      exact zQb v1 (zQ1 v2 rfl)
   ·refine zQs (by simp only [Z.zQ8, Z.ine, Z.ofN, Z.len]; simp; omega) ?_
    rw [if_neg fun h=>hlen h.2.1]
  ·rw [wJq hp, if_neg fun h => hp h.1]
   exact zQs rfl rfl
 ·rw [h8, if_neg hno]
  exact zQs rfl rfl
end Go.Proofs.Ytnbmjkbbppcbcaa
