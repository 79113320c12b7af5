/- Frames: what may be stays so. -/
import Derived.Test.YtablhcjjfiepaaaFrsixb
namespace Go.Proofs.Ytablhcjjfiepaaa
open Go.Eng
set_option linter.unusedVariables false
set_option linter.unusedSimpArgs false
theorem xJx (l : List FrT) : (zZd l).Nodup↔∀ i j (hi : i < l.length) (hj : j < l.length),i < j→l[i].1≠0→l[j].1≠0→l[i].2.1≠l[j].2.1:=by
 unfold zZd List.Nodup
 rw [List.pairwise_map,List.pairwise_filter,List.pairwise_iff_getElem]
 simp only [decide_eq_true_eq]
theorem vWw {l : List FrT} {a : Nat} (ha : a < l.length) {y : FrT} (hl : (zZd l).Nodup) (hy : ∀ j (hj : j < l.length),j≠a→y.1≠0→l[j].1≠0→y.2.1≠l[j].2.1) : (zZd (l.set a y)).Nodup:=by
 rw [xJx] at hl ⊢
 intro i j hi hj hij
 simp only [List.length_set] at hi hj
 rw [List.getElem_set,List.getElem_set]
 by_cases h1 : a=i
 ·subst h1
  rw [if_pos rfl,if_neg (by omega)]
  exact hy j hj (by omega)
 ·rw [if_neg h1]
  by_cases h2 : a=j
  ·subst h2
   rw [if_pos rfl]
   intro k1 k2 k3
   exact hy i hi (by omega) k2 k1 k3.symm
  ·rw [if_neg h2]
   exact hl i j hi hj hij
theorem vZm {c : CfgT} {l : List FrT} {h : Int} (hc : chkF c l h=0) {a : Nat} (ha : a < l.length) {y : FrT} (hok : okF c y=true) (hy : ∀ j (hj : j < l.length),j≠a→y.1≠0→l[j].1≠0→y.2.1≠l[j].2.1) : chkF c (l.set a y) h=0:=by
 obtain ⟨hm,hn,hh,hall,hnd⟩:=yQ0 hc
 refine uXa hm ⟨by rw [List.length_set]; exact hn,by rw [List.length_set]; exact hh, ?_,vWw ha hnd hy⟩
 rw [List.all_eq_true] at hall ⊢
 intro x hx
 rcases List.mem_or_eq_of_mem_set hx with h | h
 ·exact hall x h
 ·rw [h]; exact hok
theorem wQd {l : List FrT} (hs : zWo l) (a : Nat) {y : FrT} (h1 : y.2.2.1.length≤100) (h2 : y.2.2.2.1.length≤20) : zWo (l.set a y):=by
 refine ⟨by rw [List.length_set]; exact hs.1,fun x hx=>?_⟩
 rcases List.mem_or_eq_of_mem_set hx with h | h
 ·exact hs.2 x h
 ·rw [h]; exact ⟨h1,h2⟩
def xX5 (c : CfgT) (l : List FrT) (h a : Int) (A : AnsF) : Prop:=(∃ e,e≠0∧A=badF e)∨(∃ n : Nat,a=n∧n < l.length∧∃ y,A=((l.set n y,(h,())),0)∧chkF c (l.set n y) h=0∧zWo (l.set n y))
theorem zJp {c : CfgT} {l : List FrT} {h a : Int} {e : Int} (he : e≠0) : xX5 c l h a (badF e):=.inl ⟨e,he,rfl⟩
theorem yX3 {c : CfgT} {l : List FrT} {h a : Int} {b : AnsF} (hb : chkF c l h=0→xX5 c l h a b) : xX5 c l h a (ansF c l h b):=by
 unfold ansF
 split
 ·rename_i hc; exact hb hc
 ·rename_i hc; exact zJp hc
theorem zY8 {c : CfgT} {x : FrT} (h : okF c x=true) : (x.2.2.2.1.length : Int)=c.2.2.2.2.2.2.1∧zK6 x.2.2.2.1=true∧((x.1=0∧x.2.2.2.2.2.1=false)∨(x.1=1∧(0≤x.2.1∧x.2.1 < c.1∧x.2.2.1.length=0)∧x.2.2.2.2.2.1=false∧pinB x.2.2.2.1=true)∨(x.1=2∧0≤x.2.1∧x.2.1 < c.1∧(x.2.2.1.length : Int)=c.2.1)):=by
 unfold okF at h
 simp only [Bool.and_eq_true,decide_eq_true_eq] at h
 obtain ⟨⟨h1,h2⟩,h3⟩:=h
 refine ⟨h1,h2, ?_⟩
 by_cases k0 : x.1=0
 ·simp only [k0, if_pos, Bool.and_eq_true, decide_eq_true_eq] at h3
  exact .inl ⟨k0,by simpa using h3.2⟩
 ·by_cases k1 : x.1 = 1
  ·simp [k1] at h3
   exact .inr (.inl ⟨k1,⟨h3.1.1.1,h3.1.1.2.1,by simp [h3.1.1.2.2]⟩,h3.1.2,h3.2⟩)
  ·by_cases k2 : x.1 = 2
   ·simp [k2] at h3
    exact .inr (.inr ⟨k2,h3⟩)
   ·simp [k0,k1,k2] at h3
theorem yXe {c : CfgT} {l : List FrT} {h : Int} {a : Nat} (hs : zWo l) (hc : chkF c l h=0) (ha : a < l.length) {y : FrT} (h0 : y.1≠0→l[a].1≠0∧y.2.1=l[a].2.1) (hok : okF c y=true) (hd : y.2.2.1.length≤100) (hp : y.2.2.2.1.length≤20) : xX5 c l h a (setF l h a y):=by
 refine .inr ⟨a,rfl,ha,y,rfl,vZm hc ha hok ?_,wQd hs a hd hp⟩
 intro j hj hja k1 k2
 obtain ⟨q1,q2⟩:=h0 k1
 rw [q2]
 have hnd:=(xJx l).1 (yQ0 hc).2.2.2.2
 by_cases hlt : j < a
 ·exact fun e=>hnd j a hj ha hlt k2 q1 e.symm
 ·exact hnd a j ha hj (by omega) q1 k2
theorem yJ4 {c : CfgT} {l : List FrT} {h : Int} (hc : chkF c l h=0) {a : Nat} (ha : a < l.length) : okF c l[a]=true:=List.all_eq_true.1 (yQ0 hc).2.2.2.1 _ (List.getElem_mem ha)
theorem yJx {l : List FrT} {a : Int} (h : plF l a) : ∃ n : Nat,a=n∧n < l.length:=⟨a.toNat,by have:=h.1; omega,by have:=h.1; have:=h.2; omega⟩
theorem vX5 (c : CfgT) (l : List FrT) (h a : Int) (d : List Int) (hs : zWo l) (hd : d.length≤100) : xX5 c l h a (vZa c l h a d):=by
 refine yX3 fun hc=>?_
 split
 ·rename_i hx
  obtain ⟨n,rfl,hn⟩:=yJx hx.1
  rw [zXo hn] at hx ⊢
  have hsm:=hs.2 _ (List.getElem_mem hn)
  obtain ⟨h1,h2,h3⟩:=zY8 (yJ4 hc hn)
  refine yXe hs hc hn (fun _=>⟨by rw [hx.2.1]; decide,rfl⟩) ?_ hd hsm.2
  have h4 : 0≤l[n].2.1∧l[n].2.1 < c.1:=by
   rcases h3 with h3 | h3 | h3
   ·have:=h3.1; rw [hx.2.1] at this; cases this
   ·exact ⟨h3.2.1.1,h3.2.1.2.1⟩
   ·exact ⟨h3.2.1,h3.2.2.1⟩
  simp [okF,vX9,h1,h2,h4,hx.2.2]
 ·exact zJp (by decide)
theorem wYw (c : CfgT) (l : List FrT) (h a : Int) (d : List Int) (hs : zWo l) (hd : d.length≤100) : xX5 c l h a (xY3 c l h a d):=by
 refine yX3 fun hc=>?_
 split
 ·rename_i hx
  obtain ⟨n,rfl,hn⟩:=yJx hx.1
  rw [zXo hn] at hx ⊢
  have hsm:=hs.2 _ (List.getElem_mem hn)
  obtain ⟨h1,h2,h3⟩:=zY8 (yJ4 hc hn)
  refine yXe hs hc hn (fun _=>⟨by rw [hx.2.1]; decide,rfl⟩) ?_ hd hsm.2
  have h4 : 0≤l[n].2.1∧l[n].2.1 < c.1:=by
   rcases h3 with h3 | h3 | h3
   ·have:=h3.1; rw [hx.2.1] at this; cases this
   ·exact ⟨h3.2.1.1,h3.2.1.2.1⟩
   ·exact ⟨h3.2.1,h3.2.2.1⟩
  simp [okF,xY2,h1,h2,h4,hx.2.1,hx.2.2]
 ·exact zJp (by decide)
theorem wYy (c : CfgT) (l : List FrT) (h a : Int) (hs : zWo l) : xX5 c l h a (wWr c l h a):=by
 refine yX3 fun hc=>?_
 split
 ·rename_i hx
  obtain ⟨n,rfl,hn⟩:=yJx hx.1
  rw [zXo hn] at hx ⊢
  have hsm:=hs.2 _ (List.getElem_mem hn)
  obtain ⟨h1,h2,h3⟩:=zY8 (yJ4 hc hn)
  refine yXe hs hc hn (fun k=>⟨k,rfl⟩) ?_ hsm.1 hsm.2
  rcases h3 with h3 | h3 | h3
  ·have:=h3.2; rw [hx.2] at this; cases this
  ·have:=h3.2.2.1; rw [hx.2] at this; cases this
  ·simp [okF,wWq,h1,h2,h3]
 ·exact zJp (by decide)
theorem xJn {p : List Int} {k : Nat} {n : Int} (hp : zK6 p=true) (hn : 0≤n∧n≤8) : zK6 (p.set k n)=true:=by
 unfold zK6 at hp ⊢
 rw [List.all_eq_true] at hp ⊢
 intro x hx
 rcases List.mem_or_eq_of_mem_set hx with h | h
 ·exact hp x h
 ·rw [h]; simpa using hn
theorem wKx {p : List Int} {k : Nat} (hk : k < p.length) {n : Int} (hn : 0 < n) : pinB (p.set k n)=true :=
 List.any_eq_true.2 ⟨n,List.mem_set hk n,decide_eq_true hn⟩
theorem vYf {p : List Int} {k : Nat} (hk : k < p.length) (hp : zK6 p=true) : 0≤p.getD k 0∧p.getD k 0≤8:=by
 have:=List.all_eq_true.1 hp _ (List.getElem_mem hk)
 simp only [decide_eq_true_eq] at this
 have e : p.getD k 0=p[k]:=by simp [List.getD,hk]
 rw [e]; exact this
theorem vJk (c : CfgT) (l : List FrT) (h a cl : Int) (hs : zWo l) : xX5 c l h a (pinA c l h a cl):=by
 refine yX3 fun hc=>?_
 split
 ·rename_i hx
  obtain ⟨n,rfl,hn⟩:=yJx hx.1
  rw [zXo hn] at hx ⊢
  split
  ·exact zJp (by decide)
  ·rename_i h8
   have hsm:=hs.2 _ (List.getElem_mem hn)
   obtain ⟨h1,h2,h3⟩:=zY8 (yJ4 hc hn)
   have hcl:=hx.2.1
   have hlt : cl.toNat < l[n].2.2.2.1.length:=by have:=hcl.1; have:=hcl.2; omega
   have hb:=vYf hlt h2
   have hps:=xJn (k:=cl.toNat) (n:=l[n].2.2.2.1.getD cl.toNat 0+1) h2 (by omega)
   have hpb:=wKx (n:=l[n].2.2.2.1.getD cl.toNat 0+1) hlt (by omega)
   refine yXe hs hc hn (fun k=>⟨k,rfl⟩) ?_ hsm.1 (by simpa [yZc] using hsm.2)
   rcases h3 with h3 | h3 | h3
   ·exact absurd h3.1 hx.2.2
   ·simp [okF,yZc,h1,hps,hpb,h3, -List.getD_eq_getElem?_getD]
   ·simp [okF,yZc,h1,hps,hpb,h3, -List.getD_eq_getElem?_getD]
 ·exact zJp (by decide)
theorem wYx (c : CfgT) (l : List FrT) (h a cl : Int) (hs : zWo l) : xX5 c l h a (wQb c l h a cl):=by
 refine yX3 fun hc=>?_
 split
 ·rename_i hx
  obtain ⟨n,rfl,hn⟩:=yJx hx.1
  rw [zXo hn]
  split
  ·exact zJp (by decide)
  ·rename_i h8
   have k2 : l[n].1=2:=Decidable.not_not.1 fun k=>h8 (.inl k)
   have k0 : ¬ l[n].2.2.2.1.getD cl.toNat 0=0:=fun k=>h8 (.inr k)
   have hsm:=hs.2 _ (List.getElem_mem hn)
   obtain ⟨h1,h2,h3⟩:=zY8 (yJ4 hc hn)
   have hcl:=hx.2
   have hlt : cl.toNat < l[n].2.2.2.1.length:=by have:=hcl.1; have:=hcl.2; omega
   have hb:=vYf hlt h2
   have hps:=xJn (k:=cl.toNat) (n:=l[n].2.2.2.1.getD cl.toNat 0 - 1) h2 (by omega)
   refine yXe hs hc hn (fun k=>⟨k,rfl⟩) ?_ hsm.1 (by simpa [yZc] using hsm.2)
   rcases h3 with h3 | h3 | h3
   ·have:=h3.1; rw [k2] at this; cases this
   ·have:=h3.1; rw [k2] at this; cases this
   ·simp [okF,yZc,h1,hps,h3, -List.getD_eq_getElem?_getD]
 ·exact zJp (by decide)
theorem uXm {l : List FrT} {pg : Int} {a : Nat} (hnd : (zZd l).Nodup) (h : atF l pg=none∨atF l pg=some a) : ∀ j (hj : j < l.length),j≠a→l[j].1≠0→pg≠l[j].2.1:=by
 intro j hj hja k e
 rcases h with h | h
 ·unfold atF at h
  rw [List.findIdx?_eq_none_iff] at h
  have:=h _ (List.getElem_mem hj)
  simp [k,e] at this
 ·unfold atF at h
  rw [List.findIdx?_eq_some_iff_getElem] at h
  obtain ⟨ha,h1,h2⟩:=h
  simp only [decide_eq_true_eq] at h1
  by_cases hlt : j < a
  ·have := h2 j hlt
   simp [k,e] at this
  ·exact (xJx l).1 hnd a j ha hj (by omega) h1.1 k (by rw [h1.2,e])
theorem wZa (c : CfgT) (cl : Int) (hcl : clF c cl) : let p:=(List.replicate c.2.2.2.2.2.2.1.toNat (0 : Int)).set cl.toNat 1; (p.length : Int)=c.2.2.2.2.2.2.1∧zK6 p=true∧pinB p=true:=by
 have h1:=hcl.1
 have h2:=hcl.2
 refine ⟨by simp; omega,xJn ?_ (by decide),wKx (by simp; omega) (by decide)⟩
 unfold zK6
 rw [List.all_eq_true]
 intro x hx
 rw [List.eq_of_mem_replicate hx]; rfl
theorem vX4 (c : CfgT) (l : List FrT) (h a pg cl : Int) (hs : zWo l) : xX5 c l h a (vXk c l h a pg cl):=by
 refine yX3 fun hc=>?_
 split
 ·rename_i hx
  obtain ⟨hp,hcl,hpg,_,_,hat⟩:=hx
  obtain ⟨n,rfl,hn⟩:=yJx hp
  have hsm:=hs.2 _ (List.getElem_mem hn)
  obtain ⟨h1,h2,h3⟩:=zY8 (yJ4 hc hn)
  obtain ⟨p1,p2,p3⟩:=wZa c cl hcl
  refine .inr ⟨n,rfl,hn,_,rfl,vZm hc hn ?_ (fun j hj hja _ k=>uXm (pg:=pg) (yQ0 hc).2.2.2.2 (by simpa using hat) j hj hja k),wQd hs n (by simp [zJc]) (by simp [zJc]; omega)⟩
  simp only [List.length_set,List.length_replicate] at p1
  simp [okF,zJc,p1,p2,p3,hpg]
 ·exact zJp (by decide)
end Go.Proofs.Ytablhcjjfiepaaa
