/- Frames: the document's calls. -/
import Derived.Test.YtablhcjjfiepaaaFrsixb
import Derived.Test.YtablhcjjfiepaaaConfall
import Derived.Test.YtablhcjjfiepaaaFrref
import Derived.Test.YtablhcjjfiepaaaFrpin
namespace Go.Proofs.Ytablhcjjfiepaaa
open Go.Eng
set_option linter.unusedVariables false
set_option linter.unusedSimpArgs false
theorem yZh (c : CfgT) (x : FrT) (hl : x.2.2.2.1.length≤1000) : yKj (c,x)=some (okF c x):=by
 unfold yKj okF
 dsimp only
 by_cases hn : (x.2.2.2.1.length : Int)=c.2.2.2.2.2.2.1
 ·refine zQf (by simp [Dat.ine, Dat.ofN, Dat.len, hn]) ?_
  rw [decide_eq_true hn,Bool.true_and]
  refine zWm (fun (s : Int)=>∃ i : Nat,s=i∧i≤x.2.2.2.1.length∧zK6 (x.2.2.2.1.take i)=true) (fun s=>x.2.2.2.1.length - s.toNat) ?_ ⟨0,rfl,Nat.zero_le _,rfl⟩ (yWf _ _ (by omega))
  rintro s k ⟨i,rfl,hi,hp⟩ hk
  by_cases hlt : i < x.2.2.2.1.length
  ·refine zQe (decide_eq_true (by simp only [Dat.ofN, Dat.len]; omega)) ?_
   have hix : Dat.Ix (i : Int) (Dat.len x.2.2.2.1):=⟨by omega,by simp only [Dat.len]; omega⟩
   refine zQa hix ?_
   refine zQc (iget _ hlt) ?_
   have bad : ¬ (0≤x.2.2.2.1[i]∧x.2.2.2.1[i]≤8)→zK6 x.2.2.2.1=false:=fun h=>List.all_eq_false.2 ⟨_,List.getElem_mem hlt,by simp only [decide_eq_true_eq]; exact h⟩
   by_cases h0 : x.2.2.2.1[i] < 0
   ·refine zQe (decide_eq_true h0) ?_
    rw [bad (by omega)]; rfl
   ·refine zQf (decide_eq_false h0) ?_
    refine zQa hix ?_
    refine zQc (iget _ hlt) ?_
    by_cases h8 : x.2.2.2.1[i] > 8
    ·refine zQe (by simp [Dat.zQd, Dat.igt, h8]) ?_
     rw [bad (by omega)]; rfl
    ·refine zQf (by simp [Dat.zQd, Dat.igt, h8]) ?_
     refine zQc (zYe (x:=Dat.add (i : Int) 1) (by simp only [Dat.add]; omega)) ?_
     refine hk _ ⟨i+1,rfl,hlt, ?_⟩ (by simp only [Dat.add]; omega)
     unfold zK6 at hp ⊢
     rw [List.take_succ_eq_append_getElem hlt,List.all_append,hp]
     simp; omega
  ·refine zQf (decide_eq_false (by simp only [Dat.ofN, Dat.len]; omega)) ?_
   rw [List.take_of_length_le (by omega)] at hp
   rw [hp,Bool.true_and]
   have hpin : ∀ a b,zZm (x.1,(x.2.1,(x.2.2.1,(x.2.2.2.1,(a,(b,()))))))=some (pinB x.2.2.2.1):=fun a b=>wQl _ hl
   have hdz : Dat.ieq (Dat.ofN (Dat.len x.2.2.1)) 0=decide (x.2.2.1.length=0):=by
    rw [Bool.eq_iff_iff]; simp only [Dat.ieq,beq_iff_eq,decide_eq_true_eq,Dat.ofN,Dat.len]; omega
   have hdc : Dat.ieq (Dat.ofN (Dat.len x.2.2.1)) c.2.1=decide ((x.2.2.1.length : Int)=c.2.1):=by
    rw [Bool.eq_iff_iff]; simp only [Dat.ieq,beq_iff_eq,decide_eq_true_eq,Dat.ofN,Dat.len]
   simp only [hpin,Dat.bind_some,hdz,hdc,vXx]
   simp only [Dat.ige,Dat.ilt,Dat.zQd,Dat.bnot,ge_iff_le,Bool.decide_and,vXp]
   cases decide (0 ≤ x.2.1) <;> cases decide (x.2.1 < c.1) <;> cases decide (x.2.1 = 0) <;> cases decide (x.1 = 0) <;> cases decide (x.1 = 1) <;> cases decide (x.1 = 2) <;> cases decide (x.2.2.1.length = 0) <;> cases decide ((x.2.2.1.length : Int) = c.2.1) <;>
    cases pinB x.2.2.2.1<;>cases x.2.2.2.2.1<;>cases x.2.2.2.2.2.1<;>rfl
 ·refine zQe (by simp [Dat.ine, Dat.ofN, Dat.len, hn]) ?_
  rw [decide_eq_false hn]; rfl
theorem wQu (l : List FrT) : (zZd l).Nodup↔∀ i j (hi : i < l.length) (hj : j < l.length),i < j→l[i].1≠0→l[j].1≠0→l[i].2.1≠l[j].2.1:=by
 unfold zZd List.Nodup
 rw [List.pairwise_map,List.pairwise_filter,List.pairwise_iff_getElem]
 simp only [decide_eq_true_eq]
def mayF (c : CfgT) (l : List FrT) (h : Int) : Prop:=(l.length : Int)=c.2.2.2.2.2.1∧(0≤h∧h < l.length)∧l.all (okF c)=true∧(zZd l).Nodup
theorem xZa (c : CfgT) (l : List FrT) (h : Int) (hs : zWo l) : ∃ b : Bool,yWq (c,(l,(h,())))=some b∧(b=true↔mayF c l h):=by
 have yes : ∀ {x : Option Bool},mayF c l h→x=some true→∃ b : Bool,x=some b∧(b=true↔mayF c l h):=fun hm hx=>⟨true,hx,by simp [hm]⟩
 have no : ∀ {x : Option Bool},¬ mayF c l h→x=some false→∃ b : Bool,x=some b∧(b=true↔mayF c l h):=fun hm hx=>⟨false,hx,by simp [hm]⟩
 by_cases hm : mayF c l h
 ·refine yes hm ?_
  obtain ⟨h1,h2,h3,h4⟩:=hm
  unfold yWq
  dsimp only
  refine zQf (by simp [Dat.ine,Dat.ofN,Dat.len,h1]) ?_
  refine zQf (by simp [Dat.ilt,Dat.zQd]; omega) ?_
  refine zQf (by simp [Dat.ige,Dat.zQd,Dat.ofN,Dat.len]; omega) ?_
  refine zWm (fun (s : Int)=>∃ i : Nat,s=i∧i≤l.length) (fun s=>l.length - s.toNat) ?_ ⟨0,rfl,Nat.zero_le _⟩ (yWf _ _ (by have:=hs.1; omega))
  rintro s k ⟨i,rfl,hi⟩ hk
  by_cases hlt : i < l.length
  ·refine zQe (decide_eq_true (by simp only [Dat.ofN, Dat.len]; omega)) ?_
   have hix : ∀ {i : Nat},i < l.length→Dat.Ix (i : Int) (Dat.len l):=fun {i} hi=>⟨by omega,by simp only [Dat.len]; omega⟩
   refine zQa (hix hlt) ?_
   refine zQc (fget l hlt) ?_
   refine zQj (yZh c l[i] (by have:=hs.2 _ (List.getElem_mem hlt); omega)) ?_
   rw [List.all_eq_true.1 h3 _ (List.getElem_mem hlt)]
   refine zQf rfl ?_
   refine zWm (fun (s : Int)=>∃ j : Nat,s=j∧j≤i) (fun s=>i - s.toNat) ?_ ⟨0,rfl,Nat.zero_le _⟩ (yWf _ _ (by have:=hs.1; omega))
   rintro s k2 ⟨j,rfl,hj⟩ hk2
   by_cases hjt : j < i
   ·have hjl : j < l.length := by omega
    have nx : Dat.bnd (Dat.wrap .i64 (Dat.add (j : Int) 1)) (fun x=>k2 x)=some true:=zQc (zYe (x:=Dat.add (j : Int) 1) (by simp only [Dat.add]; have:=hs.1; omega)) (hk2 _ ⟨j+1,rfl,hjt⟩ (by simp only [Dat.add]; omega))
    refine zQe (decide_eq_true (by omega)) ?_
    refine zQa (hix hlt) (zQc (fget l hlt) ?_)
    by_cases k0 : l[i].1=0
    ·exact zQf (by simp [Dat.ine,k0]) nx
    ·refine zQe (by simp [Dat.ine, k0]) ?_
     refine zQa (hix hjl) (zQc (fget l hjl) ?_)
     by_cases k1 : l[j].1=0
     ·exact zQf (by simp [Dat.ine,Dat.zQd,k1]) nx
     ·refine zQe (by simp [Dat.ine, Dat.zQd, k1]) ?_
      refine zQa (hix hlt) (zQc (fget l hlt) ?_)
      refine zQa (hix hjl) (zQc (fget l hjl) ?_)
      have:=(wQu l).1 h4 j i hjl hlt hjt k1 k0
      exact zQf (by simp [Dat.ieq,Dat.zQd]; exact fun e=>this e.symm) nx
   ·refine zQf (decide_eq_false (by omega)) ?_
    exact zQc (zYe (x:=Dat.add (i : Int) 1) (by simp only [Dat.add]; have:=hs.1; omega)) (hk _ ⟨i+1,rfl,hlt⟩ (by simp only [Dat.add]; omega))
  ·exact zQf (decide_eq_false (by simp only [Dat.ofN,Dat.len]; omega)) rfl
 ·refine no hm ?_
  unfold yWq
  dsimp only
  by_cases h1 : (l.length : Int)=c.2.2.2.2.2.1
  ·refine zQf (by simp [Dat.ine, Dat.ofN, Dat.len, h1]) ?_
   by_cases h2 : h < 0
   ·exact zQe (by simp [Dat.ilt,Dat.zQd,h2]) rfl
   refine zQf (by simp [Dat.ilt,Dat.zQd]; omega) ?_
   by_cases h3 : h ≥ l.length
   ·exact zQe (by simp [Dat.ige,Dat.zQd,Dat.ofN,Dat.len]; omega) rfl
   refine zQf (by simp [Dat.ige,Dat.zQd,Dat.ofN,Dat.len]; omega) ?_
   refine zWm (fun (s : Int)=>∃ i : Nat,s=i∧i≤l.length∧(l.take i).all (okF c)=true∧(zZd (l.take i)).Nodup) (fun s=>l.length - s.toNat) ?_ ⟨0,rfl,Nat.zero_le _,rfl,by simp [zZd]⟩ (yWf _ _ (by have:=hs.1; omega))
   rintro s k ⟨i,rfl,hi,q1,q2⟩ hk
   by_cases hlt : i < l.length
   ·refine zQe (decide_eq_true (by simp only [Dat.ofN, Dat.len]; omega)) ?_
    have hix : ∀ {i : Nat},i < l.length→Dat.Ix (i : Int) (Dat.len l):=fun {i} hi=>⟨by omega,by simp only [Dat.len]; omega⟩
    refine zQa (hix hlt) ?_
    refine zQc (fget l hlt) ?_
    refine zQj (yZh c l[i] (by have:=hs.2 _ (List.getElem_mem hlt); omega)) ?_
    cases hok : okF c l[i] with
    | false=>exact zQe rfl rfl
    | true =>
     refine zQf rfl ?_
     have all' : (l.take (i+1)).all (okF c)=true:=by rw [List.take_succ_eq_append_getElem hlt,List.all_append,q1]; simp [hok]
     refine zWm (fun (s : Int)=>∃ j : Nat,s=j∧j≤i∧∀ m (hm : m < l.length),m < j→l[i].1≠0→l[m].1≠0→l[i].2.1≠l[m].2.1) (fun s=>i - s.toNat) ?_ ⟨0,rfl,Nat.zero_le _,fun m _ hm=>absurd hm (Nat.not_lt_zero _)⟩ (yWf _ _ (by have:=hs.1; omega))
     rintro s k2 ⟨j,rfl,hj,hno⟩ hk2
     by_cases hjt : j < i
     ·have hjl : j < l.length := by omega
      have nx : (l[i].1≠0→l[j].1≠0→l[i].2.1≠l[j].2.1)→Dat.bnd (Dat.wrap .i64 (Dat.add (j : Int) 1)) (fun x=>k2 x)=some false:=fun hh=>zQc (zYe (x:=Dat.add (j : Int) 1) (by simp only [Dat.add]; have:=hs.1; omega)) (hk2 _ ⟨j+1,rfl,hjt,fun m hm hmj=>by
       by_cases e : m=j
       ·subst e; exact hh
       ·exact hno m hm (by omega)⟩ (by simp only [Dat.add]; omega))
      refine zQe (decide_eq_true (by omega)) ?_
      refine zQa (hix hlt) (zQc (fget l hlt) ?_)
      by_cases k0 : l[i].1=0
      ·exact zQf (by simp [Dat.ine,k0]) (nx fun h=>absurd k0 h)
      ·refine zQe (by simp [Dat.ine, k0]) ?_
       refine zQa (hix hjl) (zQc (fget l hjl) ?_)
       by_cases k1 : l[j].1=0
       ·exact zQf (by simp [Dat.ine,Dat.zQd,k1]) (nx fun _ h=>absurd k1 h)
       ·refine zQe (by simp [Dat.ine, Dat.zQd, k1]) ?_
        refine zQa (hix hlt) (zQc (fget l hlt) ?_)
        refine zQa (hix hjl) (zQc (fget l hjl) ?_)
        by_cases k2 : l[i].2.1=l[j].2.1
        ·exact zQe (by simp [Dat.ieq,Dat.zQd,k2]) rfl
        ·exact zQf (by simp [Dat.ieq,Dat.zQd,k2]) (nx fun _ _=>k2)
     ·refine zQf (decide_eq_false (by omega)) ?_
      refine zQc (zYe (x:=Dat.add (i : Int) 1) (by simp only [Dat.add]; have:=hs.1; omega)) (hk _ ⟨i+1,rfl,hlt,all', ?_⟩ (by simp only [Dat.add]; omega))
      rw [wQu] at q2 ⊢
      intro m n hm hn hmn y1 y2
      simp only [List.length_take] at hm hn
      simp only [List.getElem_take] at y1 y2 ⊢
      by_cases e : n=i
      ·subst e
       exact fun e=>hno m (by omega) (by omega) y2 y1 e.symm
      ·have := q2 m n (by simp; omega) (by simp; omega) hmn (by simpa using y1) (by simpa using y2)
       simpa using this
   ·exfalso
    rw [List.take_of_length_le (by omega)] at q1 q2
    exact hm ⟨h1,⟨by omega,by omega⟩,q1,q2⟩
  ·exact zQe (by simp [Dat.ine,Dat.ofN,Dat.len,h1]) rfl
theorem yQ6 (c : CfgT) (l : List FrT) (h : Int) (hs : zWo l) : zJ0 (c,(l,(h,())))=some (chkF c l h):=by
 unfold zJ0 chkF
 dsimp only
 refine zQj (xZb c) ?_
 cases hm : mayB c with
 | false=>exact zQe rfl rfl
 | true =>
  refine zQf rfl ?_
  obtain ⟨b,h1,h2⟩:=xZa c l h hs
  unfold mayF at h2
  refine zQj h1 ?_
  rw [if_pos rfl]
  cases b with
  | true =>
   rw [if_pos (h2.1 rfl)]
   exact zQf rfl rfl
  | false =>
   rw [if_neg (fun k=>by have:=h2.2 k; cases this)]
   exact zQe rfl rfl
theorem yKl (l : List FrT) (h pg : Int) (hs : zWo l) : yKm ((l,(h,())),pg)=some (match atF l pg with | some i=>(i : Int) | none=>-1):=by
 unfold yKm
 dsimp only
 refine zWm (fun (s : Int)=>∃ i : Nat,s=i∧i≤l.length∧∀ j (hj : j < l.length),j < i→¬ (l[j].1≠0∧l[j].2.1=pg)) (fun s=>l.length - s.toNat) ?_ ⟨0,rfl,Nat.zero_le _,fun _ _ h=>absurd h (Nat.not_lt_zero _)⟩ (yWf _ _ (by have:=hs.1; omega))
 rintro s k ⟨i,rfl,hi,hno⟩ hk
 by_cases hlt : i < l.length
 ·refine zQe (decide_eq_true (by simp only [Dat.ofN, Dat.len]; omega)) ?_
  have hix : Dat.Ix (i : Int) (Dat.len l):=⟨by omega,by simp only [Dat.len]; omega⟩
  refine zQa hix ?_
  refine zQc (fget l hlt) ?_
  have go : ¬ (l[i].1≠0∧l[i].2.1=pg)→Dat.bnd (Dat.wrap .i64 (Dat.add (i : Int) 1)) (fun x=>k x)=some (match atF l pg with | some i=>(i : Int) | none=>-1):=fun hn =>
   zQc (zYe (x:=Dat.add (i : Int) 1) (by simp only [Dat.add]; have:=hs.1; omega)) (hk _ ⟨i+1,rfl,hlt,fun j hj hji=>by
    by_cases e : j=i
    ·subst e; exact hn
    ·exact hno j hj (by omega)⟩ (by simp only [Dat.add]; omega))
  by_cases h0 : l[i].1=0
  ·exact zQf (by simp [Dat.ine,h0]) (go (fun hx=>hx.1 h0))
  ·refine zQe (by simp [Dat.ine, h0]) ?_
   refine zQa hix ?_
   refine zQc (fget l hlt) ?_
   by_cases hp : l[i].2.1=pg
   ·refine zQe (by simp [Dat.zQd, Dat.ieq, hp]) ?_
    have : atF l pg=some i:=by
     unfold atF
     rw [List.findIdx?_eq_some_iff_getElem]
     exact ⟨hlt,decide_eq_true ⟨h0,hp⟩,fun j hj=>by simp only [decide_eq_true_eq]; exact hno j (by omega) hj⟩
    rw [this]
   ·exact zQf (by simp [Dat.zQd,Dat.ieq,hp]) (go (fun hx=>hp hx.2))
 ·refine zQf (decide_eq_false (by simp only [Dat.ofN, Dat.len]; omega)) ?_
  have : atF l pg=none:=by
   unfold atF
   rw [List.findIdx?_eq_none_iff]
   intro x hx
   obtain ⟨j,hj,rfl⟩:=List.getElem_of_mem hx
   exact decide_eq_false (hno j hj (by omega))
  rw [this]
theorem zZl (l : List FrT) (h : Int) (a : Nat) (x : FrT) (hs : zWo l) (ha : a < l.length) (h1 : x.2.2.1.length≤1000) (h2 : x.2.2.2.1.length≤1000) : zXb ((l,(h,())),((a : Int),x))=some (l.set a x,(h,())):=by
 unfold zXb
 dsimp only
 refine zQj (yWo l h hs) ?_
 refine iteN (show ¬ l.length=0 by omega) ?_
 refine zQj (zZx x h1 h2) ?_
 refine zQa (yQv (by simp only [Dat.len]; exact ha)) (zQa (zKl (by simp only [Dat.len]; exact ha)) ?_)
 rw [zYg]
 refine zQc (y:=l.set a x) rfl ?_
 refine zQa (by simp [Dat.Le,Dat.addN,Dat.len]) ?_
 rw [wQi (by simp [Dat.len])]
theorem mk_cl {c : CfgT} {n : Nat} (hn : (n : Int)=c.2.2.2.2.2.2.1) (hn2 : n≤1000) : Dat.MkOk c.2.2.2.2.2.2.1 c.2.2.2.2.2.2.1 8:=Dat.xQ2.2 (by omega)
theorem yJt (c : CfgT) (pg cl : Int) (hcl : clF c cl) (hm : Dat.MkOk c.2.2.2.2.2.2.1 c.2.2.2.2.2.2.1 8) : zKb (c,(pg,cl))=some (zJc c pg cl):=by
 unfold zKb
 dsimp only
 obtain ⟨h1,h2⟩:=hcl
 have hN : zY5 c=some (0,(0,([],(List.replicate c.2.2.2.2.2.2.1.toNat 0,(false,(false,())))))):=by
  unfold zY5
  refine zQa hm (zQa (by simp [Dat.Le,Dat.addN,Dat.len,Dat.rep]) ?_)
  simp [Dat.seg,Dat.rep,Dat.toN]
 refine zQj hN ?_
 obtain ⟨k,rfl⟩ : ∃ n : Nat,cl=n:=⟨cl.toNat,by omega⟩
 dsimp only
 refine iteP rfl ?_
 refine iteN (by simp [Dat.len]; omega) ?_
 refine zQa (yQv (by simp [Dat.len]; omega)) (zQa (zKl (by simp [Dat.len]; omega)) ?_)
 refine zQc rfl ?_
 refine zQa (by simp [Dat.Le,Dat.addN,Dat.len]) ?_
 rw [wQi (by simp [Dat.len])]
 simp [zJc,Dat.set,Dat.toN]
theorem zZc (c : CfgT) (l : List FrT) (h a cl : Int) (hs : zWo l) : zZk (c,((l,(h,())),(a,cl)))=some (if chkF c l h=0 then (if plF l a∧clF c cl then 0 else 2) else 8):=by
 unfold zZk
 dsimp only
 refine zQj (yQ6 c l h hs) ?_
 rcases wJw c l h with hc | hc
 ·rw [if_pos hc, hc]
  refine zQf rfl ?_
  unfold plF clF
  by_cases h1 : a < 0
  ·refine zQe (decide_eq_true h1) ?_
   rw [if_neg (by omega)]
  refine zQf (decide_eq_false h1) ?_
  by_cases h2 : a ≥ l.length
  ·refine zQe (by simp [Dat.zQd, Dat.ige, Dat.ofN, Dat.len]; omega) ?_
   rw [if_neg (by omega)]
  refine zQf (by simp [Dat.zQd,Dat.ige,Dat.ofN,Dat.len]; omega) ?_
  by_cases h3 : cl < 0
  ·refine zQe (by simp [Dat.zQd, Dat.ilt, h3]) ?_
   rw [if_neg (by omega)]
  refine zQf (by simp [Dat.zQd,Dat.ilt]; omega) ?_
  by_cases h4 : cl ≥ c.2.2.2.2.2.2.1
  ·refine zQe (by simp [Dat.zQd, Dat.ige]; omega) ?_
   rw [if_neg (by omega)]
  refine zQf (by simp [Dat.zQd,Dat.ige]; omega) ?_
  rw [if_pos (by omega)]
 ·rw [if_neg (by rw [hc]; decide), hc]
  exact zQe rfl rfl
theorem wZ1 {c : CfgT} {l : List FrT} {h : Int} (hc : chkF c l h=0) : clF c 0:=by
 obtain ⟨hm,_⟩:=yQ0 hc
 have hn : xW7 c=true:=by simp only [mayB,Bool.and_eq_true] at hm; exact hm.1
 simp only [xW7,bndS,okB,List.all_cons,List.all_nil,Bool.and_eq_true,decide_eq_true_eq,Bool.and_true] at hn
 obtain ⟨h1,h2,h3,h4,h5,h6,h7,h8,h9⟩:=hn
 have:=h7.1
 exact ⟨by omega,by omega⟩
theorem chk8 {c : CfgT} {l : List FrT} {h : Int} (hc : ¬ chkF c l h=0) : chkF c l h=8:=by rcases wJw c l h with k | k; exact absurd k hc; exact k
theorem xQr {c : CfgT} {x : FrT} (h : okF c x=true) : (x.2.2.2.1.length : Int)=c.2.2.2.2.2.2.1∧zK6 x.2.2.2.1=true:=by
 unfold okF at h
 simp only [Bool.and_eq_true,decide_eq_true_eq] at h
 exact ⟨h.1.1,h.1.2⟩
theorem wK7 {c : CfgT} {l : List FrT} {h : Int} (hc : chkF c l h=0) {a : Nat} (ha : a < l.length) : okF c l[a]=true:=List.all_eq_true.1 (yQ0 hc).2.2.2.1 _ (List.getElem_mem ha)
theorem yXr {l : List FrT} {h : Int} {a : Nat} {y : FrT} : ((l.set a y,(h,())),(0 : Int))=setF l h a y:=by simp [setF]
theorem xWk (c : CfgT) (l : List FrT) (h a : Int) (d : List Int) (hs : zWo l) (hd : d.length≤1000) : yXt (c,((l,(h,())),(a,d)))=some (vZa c l h a d):=by
 unfold yXt vZa ansF
 dsimp only
 refine zQj (zZc c l h a 0 hs) ?_
 by_cases hc : chkF c l h=0
 ·rw [if_pos hc, if_pos hc]
  by_cases hp : plF l a
  ·rw [if_pos (show plF l a ∧ clF c 0 from ⟨hp, wZ1 hc⟩)]
   refine zQf rfl ?_
   obtain ⟨a,rfl⟩ : ∃ n : Nat,a=n:=⟨a.toNat,by have:=hp.1; omega⟩
   have ha : a < l.length:=by have:=hp.2; omega
   have hix : Dat.Ix (a : Int) (Dat.len l):=⟨by omega,by simp only [Dat.len]; omega⟩
   have hsm:=hs.2 _ (List.getElem_mem ha)
   rw [zXo ha]
   refine zQa hix (zQc (fget l ha) ?_)
   by_cases h1 : l[a].1=1
   ·refine zQf (by simp [Dat.ine, h1]) ?_
    by_cases h2 : (d.length : Int)=c.2.1
    ·refine zQf (by simp [Dat.zQd, Dat.ine, Dat.ofN, Dat.len, h2]) ?_
     rw [if_pos (show plF l (a : Int)∧l[a].1=1∧(d.length : Int)=c.2.1 from ⟨hp,h1,h2⟩)]
     refine zQj (zZl l h a (vX9 l[a] d) hs ha hd (by simp only [vX9]; omega)) ?_
     rw [yXr]
    ·refine zQe (by simp [Dat.zQd, Dat.ine, Dat.ofN, Dat.len, h2]) ?_
     rw [if_neg (show ¬ (plF l (a : Int)∧l[a].1=1∧(d.length : Int)=c.2.1) from fun hm=>h2 hm.2.2)]; rfl
   ·refine zQe (by simp [Dat.ine, h1]) ?_
    rw [if_neg (show ¬ (plF l (a : Int)∧l[a].1=1∧(d.length : Int)=c.2.1) from fun hm=>h1 hm.2.1)]; rfl
  ·rw [if_neg (show ¬ (plF l a ∧ clF c 0) from fun k => hp k.1), if_neg (show ¬ (plF l a ∧ (elF l a).1 = 1 ∧ (d.length : Int) = c.2.1) from fun k => hp k.1)]
   exact zQe rfl rfl
 ·rw [if_neg hc, if_neg hc, chk8 hc]
  exact zQe rfl rfl
theorem xQf (c : CfgT) (l : List FrT) (h a : Int) (d : List Int) (hs : zWo l) (hd : d.length≤1000) : yQj (c,((l,(h,())),(a,d)))=some (xY3 c l h a d):=by
 unfold yQj xY3 ansF
 dsimp only
 refine zQj (zZc c l h a 0 hs) ?_
 by_cases hc : chkF c l h=0
 ·rw [if_pos hc, if_pos hc]
  by_cases hp : plF l a
  ·rw [if_pos (show plF l a ∧ clF c 0 from ⟨hp, wZ1 hc⟩)]
   refine zQf rfl ?_
   obtain ⟨a,rfl⟩ : ∃ n : Nat,a=n:=⟨a.toNat,by have:=hp.1; omega⟩
   have ha : a < l.length:=by have:=hp.2; omega
   have hix : Dat.Ix (a : Int) (Dat.len l):=⟨by omega,by simp only [Dat.len]; omega⟩
   have hsm:=hs.2 _ (List.getElem_mem ha)
   rw [zXo ha]
   refine zQa hix (zQc (fget l ha) ?_)
   by_cases h1 : l[a].1=2
   ·refine zQf (by simp [Dat.ine, h1]) ?_
    by_cases h2 : (d.length : Int)=c.2.1
    ·refine zQf (by simp [Dat.zQd, Dat.ine, Dat.ofN, Dat.len, h2]) ?_
     rw [if_pos (show plF l (a : Int)∧l[a].1=2∧(d.length : Int)=c.2.1 from ⟨hp,h1,h2⟩)]
     refine zQj (zZl l h a (xY2 l[a] d) hs ha hd (by simp only [xY2]; omega)) ?_
     rw [yXr]
    ·refine zQe (by simp [Dat.zQd, Dat.ine, Dat.ofN, Dat.len, h2]) ?_
     rw [if_neg (show ¬ (plF l (a : Int)∧l[a].1=2∧(d.length : Int)=c.2.1) from fun hm=>h2 hm.2.2)]; rfl
   ·refine zQe (by simp [Dat.ine, h1]) ?_
    rw [if_neg (show ¬ (plF l (a : Int)∧l[a].1=2∧(d.length : Int)=c.2.1) from fun hm=>h1 hm.2.1)]; rfl
  ·rw [if_neg (show ¬ (plF l a ∧ clF c 0) from fun k => hp k.1), if_neg (show ¬ (plF l a ∧ (elF l a).1 = 2 ∧ (d.length : Int) = c.2.1) from fun k => hp k.1)]
   exact zQe rfl rfl
 ·rw [if_neg hc, if_neg hc, chk8 hc]
  exact zQe rfl rfl
theorem xQi (c : CfgT) (l : List FrT) (h a : Int) (hs : zWo l) : yQm (c,((l,(h,())),a))=some (wWr c l h a):=by
 unfold yQm wWr ansF
 dsimp only
 refine zQj (zZc c l h a 0 hs) ?_
 by_cases hc : chkF c l h=0
 ·rw [if_pos hc, if_pos hc]
  by_cases hp : plF l a
  ·rw [if_pos (show plF l a ∧ clF c 0 from ⟨hp, wZ1 hc⟩)]
   refine zQf rfl ?_
   obtain ⟨a,rfl⟩ : ∃ n : Nat,a=n:=⟨a.toNat,by have:=hp.1; omega⟩
   have ha : a < l.length:=by have:=hp.2; omega
   have hix : Dat.Ix (a : Int) (Dat.len l):=⟨by omega,by simp only [Dat.len]; omega⟩
   have hsm:=hs.2 _ (List.getElem_mem ha)
   rw [zXo ha]
   refine zQa hix (zQc (fget l ha) ?_)
   cases h1 : l[a].2.2.2.2.2.1 with
   | true =>
    refine zQf rfl ?_
    rw [if_pos (show plF l (a : Int)∧true=true from ⟨hp,rfl⟩)]
    refine zQj (zZl l h a (wWq l[a]) hs ha (by simp only [wWq]; omega) (by simp only [wWq]; omega)) ?_
    rw [yXr]
   | false =>
    refine zQe rfl ?_
    rw [if_neg (show ¬ (plF l (a : Int)∧false=true) from fun hm=>by cases hm.2)]; rfl
  ·rw [if_neg (show ¬ (plF l a ∧ clF c 0) from fun k => hp k.1), if_neg (show ¬ (plF l a ∧ (elF l a).2.2.2.2.2.1 = true) from fun k => hp k.1)]
   exact zQe rfl rfl
 ·rw [if_neg hc, if_neg hc, chk8 hc]
  exact zQe rfl rfl
theorem yWn (l : List FrT) (h : Int) (a cl : Nat) (n : Int) (hs : zWo l) (ha : a < l.length) (hcl : cl < l[a].2.2.2.1.length) (hn : -10 ≤ l[a].2.2.2.1[cl] ∧ l[a].2.2.2.1[cl] ≤ 10) (hn2 : n = 1 ∨ n = -1) :
  zY4 ((l,(h,())),((a : Int),((cl : Int),n)))=some (l.set a (yZc l[a] cl (l[a].2.2.2.1[cl]+n) (l[a].2.2.2.2.1 || decide (n > 0))),(h,())):=by
 have hsm:=hs.2 _ (List.getElem_mem ha)
 have hix : Dat.Ix (a : Int) (Dat.len l):=⟨by omega,by simp only [Dat.len]; omega⟩
 unfold zY4
 dsimp only
 refine zQa hix (zQc (fget l ha) ?_)
 refine zQj (zZx l[a] (by omega) (by omega)) ?_
 have hg : Dat.get l[a].2.2.2.1 (Dat.addN 0 (Dat.toN (cl : Int))) 0=l[a].2.2.2.1[cl]:=by simp [Dat.get,Dat.toN,List.getD,hcl]
 have hw : Dat.wrap .i64 (Dat.add l[a].2.2.2.1[cl] n)=l[a].2.2.2.1[cl]+n:=zYe (x:=Dat.add _ _) (by simp only [Dat.add]; omega)
 have hin : Dat.In (cl : Int) (Dat.len l[a].2.2.2.1):=yQv hcl
 have hlt : Dat.Lt (Dat.addN 0 (Dat.toN (cl : Int))) (Dat.len l[a].2.2.2.1):=zKl hcl
 have hle : ∀ (x : List Int) (k : Nat) (v : Int),Dat.Le (Dat.addN 0 (Dat.len x)) (Dat.len (Dat.set x k v)):=fun x k v=>by simp [Dat.Le,Dat.addN,Dat.len]
 have hsg : ∀ (x : List Int) (k : Nat) (v : Int),Dat.seg (Dat.set x k v) 0 (Dat.len x)=x.set k v:=fun x k v=>wQi (by simp [Dat.len,Dat.set])
 have hsg0 : ∀ x : List Int,Dat.seg x 0 (Dat.len x)=x:=fun x=>wQi rfl
 have hr : ∀ b : Bool,Dat.zQd false true b=b:=fun b=>by simp [Dat.zQd]
 have fin : ∀ (r : Bool), r = (l[a].2.2.2.2.1 || decide (n > 0)) →
   Dat.bind (zXb ((l,(h,())),((a : Int),(l[a].1,(l[a].2.1,(l[a].2.2.1,(l[a].2.2.2.1.set cl (l[a].2.2.2.1[cl]+n),(r,(l[a].2.2.2.2.2.1,()))))))))) (fun x=>some (x.1,(x.2.1,())))=some (l.set a (yZc l[a] cl (l[a].2.2.2.1[cl]+n) (l[a].2.2.2.2.1 || decide (n > 0))),(h,())):=by
  intro r hr
  refine zQj (zZl l h a _ hs ha (by simp only []; omega) (by simp only [List.length_set]; omega)) ?_
  rw [hr]
  simp [yZc]
 by_cases hd : l[a].2.2.1.length=0
 ·refine iteP hd (iteN (by simp only [Dat.EqN, Dat.len]; omega) ?_)
  refine zQa hin (zQa hlt (zQc hg (zQc hw (zQa hin (zQa hlt (zQc rfl ?_))))))
  cases hrf : l[a].2.2.2.2.1 with
  | true =>
   refine zQe rfl (zQa (hle _ _ _) ?_)
   rw [hsg,zYg]
   have:=fin true (by rw [hrf]; rfl)
   rw [hrf] at this; exact this
  | false =>
   refine zQf rfl (zQa (hle _ _ _) ?_)
   rw [hsg,zYg]
   have:=fin (Dat.zQd false true (Dat.igt n 0)) (by rw [hrf,hr]; rfl)
   rw [hrf] at this; exact this
 ·refine iteN hd (iteN (by simp only [Dat.EqN, Dat.len]; omega) ?_)
  refine zQa hin (zQa hlt (zQc hg (zQc hw (zQa hin (zQa hlt (zQc rfl ?_))))))
  have hle0 : Dat.Le (Dat.addN 0 (Dat.len l[a].2.2.1)) (Dat.len l[a].2.2.1):=by simp [Dat.Le,Dat.addN,Dat.len]
  cases hrf : l[a].2.2.2.2.1 with
  | true =>
   refine zQe rfl (zQa hle0 (zQa (hle _ _ _) ?_))
   rw [hsg,hsg0,zYg]
   have:=fin true (by rw [hrf]; rfl)
   rw [hrf] at this; exact this
  | false =>
   refine zQf rfl (zQa hle0 (zQa (hle _ _ _) ?_))
   rw [hsg,hsg0,zYg]
   have:=fin (Dat.zQd false true (Dat.igt n 0)) (by rw [hrf,hr]; rfl)
   rw [hrf] at this; exact this
theorem vWt {c : CfgT} {l : List FrT} {h : Int} (hc : chkF c l h=0) {a cl : Nat} (ha : a < l.length) (hcl : cl < l[a].2.2.2.1.length) : 0≤l[a].2.2.2.1[cl]∧l[a].2.2.2.1[cl]≤8:=by
 have:=List.all_eq_true.1 (xQr (wK7 hc ha)).2 _ (List.getElem_mem hcl)
 simpa using this
theorem xX9 (c : CfgT) (l : List FrT) (h a cl : Int) (hs : zWo l) : yKk (c,((l,(h,())),(a,cl)))=some (pinA c l h a cl):=by
 unfold yKk pinA ansF
 dsimp only
 refine zQj (zZc c l h a cl hs) ?_
 by_cases hc : chkF c l h=0
 ·rw [if_pos hc, if_pos hc]
  by_cases hp : plF l a∧clF c cl
  ·rw [if_pos hp]
   refine zQf rfl ?_
   obtain ⟨hp,hcl⟩:=hp
   obtain ⟨a,rfl⟩ : ∃ n : Nat,a=n:=⟨a.toNat,by have:=hp.1; omega⟩
   have ha : a < l.length:=by have:=hp.2; omega
   have hix : Dat.Ix (a : Int) (Dat.len l):=⟨by omega,by simp only [Dat.len]; omega⟩
   have hsm:=hs.2 _ (List.getElem_mem ha)
   rw [zXo ha]
   have hpn:=xQr (wK7 hc ha)
   obtain ⟨cl,rfl⟩ : ∃ n : Nat,cl=n:=⟨cl.toNat,by have:=hcl.1; omega⟩
   have hclt : cl < l[a].2.2.2.1.length:=by have:=hcl.2; have:=hpn.1; omega
   have hgd : l[a].2.2.2.1.getD ((cl : Int)).toNat 0=l[a].2.2.2.1[cl]:=by simp [List.getD,hclt]
   have hbd:=vWt hc ha hclt
   have hcx : Dat.Ix (cl : Int) (Dat.len l[a].2.2.2.1):=⟨by omega,by simp only [Dat.len]; omega⟩
   rw [hgd]
   refine zQa hix (zQc (fget l ha) ?_)
   by_cases h1 : l[a].1=0
   ·refine zQe (by simp [Dat.ieq, h1]) ?_
    rw [if_neg (show ¬ (plF l (a : Int)∧clF c (cl : Int)∧l[a].1≠0) from fun hm=>hm.2.2 h1)]; rfl
   ·refine zQf (by simp [Dat.ieq, h1]) ?_
    rw [if_pos (show plF l (a : Int)∧clF c (cl : Int)∧l[a].1≠0 from ⟨hp,hcl,h1⟩)]
    refine zQa hix (zQc (fget l ha) ?_)
    refine zQa hcx (zQc (iget _ hclt) ?_)
    by_cases h2 : l[a].2.2.2.1[cl]=8
    ·refine zQe (by simp [Dat.ieq, h2]) ?_
     rw [if_pos h2]; rfl
    ·refine zQf (by simp [Dat.ieq, h2]) ?_
     rw [if_neg h2]
     refine zQj (yWn l h a cl 1 hs ha hclt (by omega) (.inl rfl)) ?_
     rw [yXr]
     simp
  ·rw [if_neg hp, if_neg (show ¬ (plF l a ∧ clF c cl ∧ (elF l a).1 ≠ 0) from fun k => hp ⟨k.1, k.2.1⟩)]
   exact zQe rfl rfl
 ·rw [if_neg hc, if_neg hc, chk8 hc]
  exact zQe rfl rfl
theorem xQg (c : CfgT) (l : List FrT) (h a cl : Int) (hs : zWo l) : yQk (c,((l,(h,())),(a,cl)))=some (wQb c l h a cl):=by
 unfold yQk wQb ansF
 dsimp only
 refine zQj (zZc c l h a cl hs) ?_
 by_cases hc : chkF c l h=0
 ·rw [if_pos hc, if_pos hc]
  by_cases hp : plF l a∧clF c cl
  ·rw [if_pos hp]
   refine zQf rfl ?_
   obtain ⟨hp,hcl⟩:=hp
   obtain ⟨a,rfl⟩ : ∃ n : Nat,a=n:=⟨a.toNat,by have:=hp.1; omega⟩
   have ha : a < l.length:=by have:=hp.2; omega
   have hix : Dat.Ix (a : Int) (Dat.len l):=⟨by omega,by simp only [Dat.len]; omega⟩
   have hsm:=hs.2 _ (List.getElem_mem ha)
   rw [zXo ha]
   have hpn:=xQr (wK7 hc ha)
   obtain ⟨cl,rfl⟩ : ∃ n : Nat,cl=n:=⟨cl.toNat,by have:=hcl.1; omega⟩
   have hclt : cl < l[a].2.2.2.1.length:=by have:=hcl.2; have:=hpn.1; omega
   have hgd : l[a].2.2.2.1.getD ((cl : Int)).toNat 0=l[a].2.2.2.1[cl]:=by simp [List.getD,hclt]
   have hbd:=vWt hc ha hclt
   have hcx : Dat.Ix (cl : Int) (Dat.len l[a].2.2.2.1):=⟨by omega,by simp only [Dat.len]; omega⟩
   rw [hgd]
   refine zQa hix (zQc (fget l ha) ?_)
   rw [if_pos (show plF l (a : Int)∧clF c (cl : Int) from ⟨hp,hcl⟩)]
   by_cases h1 : l[a].1=2
   ·refine zQf (by simp [Dat.ine, h1]) ?_
    refine zQa hix (zQc (fget l ha) ?_)
    refine zQa hcx (zQc (iget _ hclt) ?_)
    by_cases h2 : l[a].2.2.2.1[cl]=0
    ·refine zQe (by simp [Dat.zQd, Dat.ieq, h2]) ?_
     rw [if_pos (show l[a].1≠2∨l[a].2.2.2.1[cl]=0 from .inr h2)]; rfl
    ·refine zQf (by simp [Dat.zQd, Dat.ieq, h2]) ?_
     rw [if_neg (show ¬ (l[a].1≠2∨l[a].2.2.2.1[cl]=0) from fun hx=>hx.elim (fun k=>k h1) h2)]
     refine zQj (yWn l h a cl (-1) hs ha hclt (by omega) (.inr rfl)) ?_
     rw [yXr]
     simp [Int.sub_eq_add_neg]
   ·refine zQe (by simp [Dat.ine, h1]) ?_
    rw [if_pos (show l[a].1≠2∨l[a].2.2.2.1[cl]=0 from .inl h1)]; rfl
  ·rw [if_neg hp, if_neg hp]
   exact zQe rfl rfl
 ·rw [if_neg hc, if_neg hc, chk8 hc]
  exact zQe rfl rfl
theorem xWj (c : CfgT) (l : List FrT) (h a pg cl : Int) (hs : zWo l) : yXs (c,((l,(h,())),(a,(pg,cl))))=some (vXk c l h a pg cl):=by
 unfold yXs vXk ansF
 dsimp only
 refine zQj (yQ6 c l h hs) ?_
 by_cases hc : chkF c l h=0
 ·rw [if_pos hc]
  refine zQf (by simp [Dat.ine,hc]) ?_
  by_cases h1 : a < 0
  ·refine zQe (decide_eq_true h1) ?_
   rw [if_neg (show ¬ zXq c l a pg cl from fun k=>by have:=k.1.1; omega)]; rfl
  refine zQf (decide_eq_false h1) ?_
  by_cases h2 : a ≥ l.length
  ·refine zQe (by simp [Dat.zQd, Dat.ige, Dat.ofN, Dat.len]; omega) ?_
   rw [if_neg (show ¬ zXq c l a pg cl from fun k=>by have:=k.1.2; omega)]; rfl
  refine zQf (by simp [Dat.zQd,Dat.ige,Dat.ofN,Dat.len]; omega) ?_
  obtain ⟨a,rfl⟩ : ∃ n : Nat,a=n:=⟨a.toNat,by omega⟩
  have ha : a < l.length:=by omega
  have hix : Dat.Ix (a : Int) (Dat.len l):=⟨by omega,by simp only [Dat.len]; omega⟩
  have hsm:=hs.2 _ (List.getElem_mem ha)
  have hel:=zXo ha
  refine zQa hix (zQc (fget l ha) ?_)
  by_cases h3 : l[a].1=1
  ·refine zQe (by simp [Dat.zQd, Dat.ieq, h3]) ?_
   rw [if_neg (show ¬ zXq c l a pg cl from fun k=>by have:=k.2.2.2.1; rw [hel] at this; exact this h3)]; rfl
  refine zQf (by simp [Dat.zQd,Dat.ieq,h3]) ?_
  refine zQa hix (zQc (fget l ha) ?_)
  refine zQj (wQl l[a] (by omega)) ?_
  cases h4 : pinB l[a].2.2.2.1 with
  | true =>
   refine zQe rfl ?_
   rw [if_neg (show ¬ zXq c l a pg cl from fun k=>by have:=k.2.2.2.2.1; rw [hel,h4] at this; cases this)]; rfl
  | false =>
   refine zQf rfl ?_
   by_cases h5 : pg < 0
   ·refine zQe (by simp [Dat.zQd, Dat.ilt, h5]) ?_
    rw [if_neg (show ¬ zXq c l a pg cl from fun k=>by have:=k.2.2.1; omega)]; rfl
   refine zQf (by simp [Dat.zQd,Dat.ilt]; omega) ?_
   by_cases h6 : pg ≥ c.1
   ·refine zQe (by simp [Dat.zQd, Dat.ige]; omega) ?_
    rw [if_neg (show ¬ zXq c l a pg cl from fun k=>by have:=k.2.2.1; omega)]; rfl
   refine zQf (by simp [Dat.zQd,Dat.ige]; omega) ?_
   by_cases h7 : cl < 0
   ·refine zQe (by simp [Dat.zQd, Dat.ilt, h7]) ?_
    rw [if_neg (show ¬ zXq c l a pg cl from fun k=>by have:=k.2.1.1; omega)]; rfl
   refine zQf (by simp [Dat.zQd,Dat.ilt]; omega) ?_
   by_cases h8 : cl ≥ c.2.2.2.2.2.2.1
   ·refine zQe (by simp [Dat.zQd, Dat.ige]; omega) ?_
    rw [if_neg (show ¬ zXq c l a pg cl from fun k=>by have:=k.2.1.2; omega)]; rfl
   refine zQf (by simp [Dat.zQd,Dat.ige]; omega) ?_
   have hcl : clF c cl:=⟨by omega,by omega⟩
   have hpl : plF l (a : Int):=⟨by omega,by omega⟩
   have hpn:=xQr (wK7 hc ha)
   have hM : (atF l pg=none∨atF l pg=some a)→zXq c l a pg cl:=fun ho=>⟨hpl,hcl,⟨by omega,by omega⟩,by rw [hel]; exact h3,by rw [hel]; exact h4,by simpa using ho⟩
   have go : (atF l pg=none∨atF l pg=some a)→Dat.bind (zKb (c,(pg,cl))) (fun x11=>Dat.bind (zXb ((l,(h,())),((a : Int),(x11.1,(x11.2.1,(x11.2.2.1,(x11.2.2.2.1,(x11.2.2.2.2.1,(x11.2.2.2.2.2.1,()))))))))) fun x12=>some ((x12.1,(x12.2.1,())),(0 : Int)))=some (if zXq c l a pg cl then setF l h a (zJc c pg cl) else badF 2):=by
    intro ho
    rw [if_pos (hM ho)]
    refine zQj (yJt c pg cl hcl (mk_cl hpn.1 (by omega))) ?_
    refine zQj (zZl l h a (zJc c pg cl) hs ha (by simp [zJc]) (by have:=hpn.1; simp [zJc]; omega)) ?_
    rw [yXr]
   refine zQj (yKl l h pg hs) ?_
   cases h9 : atF l pg with
   | none=>exact zQf rfl (go (.inl h9))
   | some o =>
    refine zQe (decide_eq_true (by simp only []; omega)) ?_
    refine zQj (yKl l h pg hs) ?_
    rw [h9]
    by_cases ho : o=a
    ·subst ho
     exact zQf (by simp [Dat.zQd,Dat.ine]) (go (.inr h9))
    ·refine zQe (by simp [Dat.zQd, Dat.ine]; omega) ?_
     rw [if_neg (show ¬ zXq c l a pg cl from fun k=>by
      have:=k.2.2.2.2.2
      rw [h9] at this
      rcases this with h | h
      ·cases h
      ·exact ho (by simpa using h))]; rfl
 ·rw [if_neg hc, chk8 hc]
  exact zQe rfl rfl
end Go.Proofs.Ytablhcjjfiepaaa
