/- Frames: the document's calls. -/
import Derived.Test.YtablhcjjfiepaaaFrsixb
import Derived.Test.YtablhcjjfiepaaaConfall
import Derived.Test.YtablhcjjfiepaaaFrref
import Derived.Test.YtablhcjjfiepaaaFrpin
namespace Go.Proofs.Ytablhcjjfiepaaa
open Go.Eng
set_option linter.unusedVariables false
set_option linter.unusedSimpArgs false
theorem yXs (c : CfgT) (x : FrT) (hl : x.2.2.2.1.length≤1000) : yZq (c,x)=some (okF c x):=by
 unfold yZq okF
 dsimp only
 by_cases hn : (x.2.2.2.1.length : Int)=c.2.2.2.2.2.2.1
 ·refine zQh (by simp [Dat.ine, Dat.ofN, Dat.len, hn]) ?_
  rw [decide_eq_true hn,Bool.true_and]
  refine zQ2 (fun (s : Int)=>∃ i : Nat,s=i∧i≤x.2.2.2.1.length∧xQ4 (x.2.2.2.1.take i)=true) (fun s=>x.2.2.2.1.length - s.toNat) ?_ ⟨0,rfl,Nat.zero_le _,rfl⟩ (zK1 _ _ (by omega))
  rintro s k ⟨i,rfl,hi,hp⟩ hk
  by_cases hlt : i < x.2.2.2.1.length
  ·refine zQi (decide_eq_true (by simp only [Dat.ofN, Dat.len]; omega)) ?_
   have hix : Dat.Ix (i : Int) (Dat.len x.2.2.2.1):=⟨by omega,by simp only [Dat.len]; omega⟩
   refine zQb hix ?_
   refine zQe (iget _ hlt) ?_
   have bad : ¬ (0≤x.2.2.2.1[i]∧x.2.2.2.1[i]≤8)→xQ4 x.2.2.2.1=false:=fun h=>List.all_eq_false.2 ⟨_,List.getElem_mem hlt,by simp only [decide_eq_true_eq]; exact h⟩
   by_cases h0 : x.2.2.2.1[i] < 0
   ·refine zQi (decide_eq_true h0) ?_
    rw [bad (by omega)]; rfl
   ·refine zQh (decide_eq_false h0) ?_
    refine zQb hix ?_
    refine zQe (iget _ hlt) ?_
    by_cases h8 : x.2.2.2.1[i] > 8
    ·refine zQi (by simp [Dat.zQg, Dat.igt, h8]) ?_
     rw [bad (by omega)]; rfl
    ·refine zQh (by simp [Dat.zQg, Dat.igt, h8]) ?_
     refine zQe (zZh (x:=Dat.add (i : Int) 1) (by simp only [Dat.add]; omega)) ?_
     refine hk _ ⟨i+1,rfl,hlt, ?_⟩ (by simp only [Dat.add]; omega)
     unfold xQ4 at hp ⊢
     rw [List.take_succ_eq_append_getElem hlt,List.all_append,hp]
     simp; omega
  ·refine zQh (decide_eq_false (by simp only [Dat.ofN, Dat.len]; omega)) ?_
   rw [List.take_of_length_le (by omega)] at hp
   rw [hp,Bool.true_and]
   have hpin : ∀ a b,zW4 (x.1,(x.2.1,(x.2.2.1,(x.2.2.2.1,(a,(b,()))))))=some (pinB x.2.2.2.1):=fun a b=>vQk _ hl
   have hdz : Dat.ieq (Dat.ofN (Dat.len x.2.2.1)) 0=decide (x.2.2.1.length=0):=by
    rw [Bool.eq_iff_iff]; simp only [Dat.ieq,beq_iff_eq,decide_eq_true_eq,Dat.ofN,Dat.len]; omega
   have hdc : Dat.ieq (Dat.ofN (Dat.len x.2.2.1)) c.2.1=decide ((x.2.2.1.length : Int)=c.2.1):=by
    rw [Bool.eq_iff_iff]; simp only [Dat.ieq,beq_iff_eq,decide_eq_true_eq,Dat.ofN,Dat.len]
   simp only [hpin,Dat.bind_some,hdz,hdc,vWm]
   simp only [Dat.ige,Dat.ilt,Dat.zQg,Dat.bnot,ge_iff_le,Bool.decide_and,vWe]
   cases decide (0 ≤ x.2.1) <;> cases decide (x.2.1 < c.1) <;> cases decide (x.2.1 = 0) <;> cases decide (x.1 = 0) <;> cases decide (x.1 = 1) <;> cases decide (x.1 = 2) <;> cases decide (x.2.2.1.length = 0) <;> cases decide ((x.2.2.1.length : Int) = c.2.1) <;>
    cases pinB x.2.2.2.1<;>cases x.2.2.2.2.1<;>cases x.2.2.2.2.2.1<;>rfl
 ·refine zQi (by simp [Dat.ine, Dat.ofN, Dat.len, hn]) ?_
  rw [decide_eq_false hn]; rfl
theorem xY8 (l : List FrT) : (zZ8 l).Nodup↔∀ i j (hi : i < l.length) (hj : j < l.length),i < j→l[i].1≠0→l[j].1≠0→l[i].2.1≠l[j].2.1:=by
 unfold zZ8 List.Nodup
 rw [List.pairwise_map,List.pairwise_filter,List.pairwise_iff_getElem]
 simp only [decide_eq_true_eq]
def mayF (c : CfgT) (l : List FrT) (h : Int) : Prop:=(l.length : Int)=c.2.2.2.2.2.1∧(0≤h∧h < l.length)∧l.all (okF c)=true∧(zZ8 l).Nodup
theorem xXo (c : CfgT) (l : List FrT) (h : Int) (hs : zW0 l) : ∃ b : Bool,yQ5 (c,(l,(h,())))=some b∧(b=true↔mayF c l h):=by
 have yes : ∀ {x : Option Bool},mayF c l h→x=some true→∃ b : Bool,x=some b∧(b=true↔mayF c l h):=fun hm hx=>⟨true,hx,by simp [hm]⟩
 have no : ∀ {x : Option Bool},¬ mayF c l h→x=some false→∃ b : Bool,x=some b∧(b=true↔mayF c l h):=fun hm hx=>⟨false,hx,by simp [hm]⟩
 by_cases hm : mayF c l h
 ·refine yes hm ?_
  obtain ⟨h1,h2,h3,h4⟩:=hm
  unfold yQ5
  dsimp only
  refine zQh (by simp [Dat.ine,Dat.ofN,Dat.len,h1]) ?_
  refine zQh (by simp [Dat.ilt,Dat.zQg]; omega) ?_
  refine zQh (by simp [Dat.ige,Dat.zQg,Dat.ofN,Dat.len]; omega) ?_
  refine zQ2 (fun (s : Int)=>∃ i : Nat,s=i∧i≤l.length) (fun s=>l.length - s.toNat) ?_ ⟨0,rfl,Nat.zero_le _⟩ (zK1 _ _ (by have:=hs.1; omega))
  rintro s k ⟨i,rfl,hi⟩ hk
  by_cases hlt : i < l.length
  ·refine zQi (decide_eq_true (by simp only [Dat.ofN, Dat.len]; omega)) ?_
   have hix : ∀ {i : Nat},i < l.length→Dat.Ix (i : Int) (Dat.len l):=fun {i} hi=>⟨by omega,by simp only [Dat.len]; omega⟩
   refine zQb (hix hlt) ?_
   refine zQe (fget l hlt) ?_
   refine zQp (yXs c l[i] (by have:=hs.2 _ (List.getElem_mem hlt); omega)) ?_
   rw [List.all_eq_true.1 h3 _ (List.getElem_mem hlt)]
   refine zQh rfl ?_
   refine zQ2 (fun (s : Int)=>∃ j : Nat,s=j∧j≤i) (fun s=>i - s.toNat) ?_ ⟨0,rfl,Nat.zero_le _⟩ (zK1 _ _ (by have:=hs.1; omega))
   rintro s k2 ⟨j,rfl,hj⟩ hk2
   by_cases hjt : j < i
   ·have hjl : j < l.length := by omega
    have nx : Dat.bnd (Dat.wrap .i64 (Dat.add (j : Int) 1)) (fun x=>k2 x)=some true:=zQe (zZh (x:=Dat.add (j : Int) 1) (by simp only [Dat.add]; have:=hs.1; omega)) (hk2 _ ⟨j+1,rfl,hjt⟩ (by simp only [Dat.add]; omega))
    refine zQi (decide_eq_true (by omega)) ?_
    refine zQb (hix hlt) (zQe (fget l hlt) ?_)
    by_cases k0 : l[i].1=0
    ·exact zQh (by simp [Dat.ine,k0]) nx
    ·refine zQi (by simp [Dat.ine, k0]) ?_
     refine zQb (hix hjl) (zQe (fget l hjl) ?_)
     by_cases k1 : l[j].1=0
     ·exact zQh (by simp [Dat.ine,Dat.zQg,k1]) nx
     ·refine zQi (by simp [Dat.ine, Dat.zQg, k1]) ?_
      refine zQb (hix hlt) (zQe (fget l hlt) ?_)
      refine zQb (hix hjl) (zQe (fget l hjl) ?_)
      have:=(xY8 l).1 h4 j i hjl hlt hjt k1 k0
      exact zQh (by simp [Dat.ieq,Dat.zQg]; exact fun e=>this e.symm) nx
   ·refine zQh (decide_eq_false (by omega)) ?_
    exact zQe (zZh (x:=Dat.add (i : Int) 1) (by simp only [Dat.add]; have:=hs.1; omega)) (hk _ ⟨i+1,rfl,hlt⟩ (by simp only [Dat.add]; omega))
  ·exact zQh (decide_eq_false (by simp only [Dat.ofN,Dat.len]; omega)) rfl
 ·refine no hm ?_
  unfold yQ5
  dsimp only
  by_cases h1 : (l.length : Int)=c.2.2.2.2.2.1
  ·refine zQh (by simp [Dat.ine, Dat.ofN, Dat.len, h1]) ?_
   by_cases h2 : h < 0
   ·exact zQi (by simp [Dat.ilt,Dat.zQg,h2]) rfl
   refine zQh (by simp [Dat.ilt,Dat.zQg]; omega) ?_
   by_cases h3 : h ≥ l.length
   ·exact zQi (by simp [Dat.ige,Dat.zQg,Dat.ofN,Dat.len]; omega) rfl
   refine zQh (by simp [Dat.ige,Dat.zQg,Dat.ofN,Dat.len]; omega) ?_
   refine zQ2 (fun (s : Int)=>∃ i : Nat,s=i∧i≤l.length∧(l.take i).all (okF c)=true∧(zZ8 (l.take i)).Nodup) (fun s=>l.length - s.toNat) ?_ ⟨0,rfl,Nat.zero_le _,rfl,by simp [zZ8]⟩ (zK1 _ _ (by have:=hs.1; omega))
   rintro s k ⟨i,rfl,hi,q1,q2⟩ hk
   by_cases hlt : i < l.length
   ·refine zQi (decide_eq_true (by simp only [Dat.ofN, Dat.len]; omega)) ?_
    have hix : ∀ {i : Nat},i < l.length→Dat.Ix (i : Int) (Dat.len l):=fun {i} hi=>⟨by omega,by simp only [Dat.len]; omega⟩
    refine zQb (hix hlt) ?_
    refine zQe (fget l hlt) ?_
    refine zQp (yXs c l[i] (by have:=hs.2 _ (List.getElem_mem hlt); omega)) ?_
    cases hok : okF c l[i] with
    | false=>exact zQi rfl rfl
    | true =>
     refine zQh rfl ?_
     have all' : (l.take (i+1)).all (okF c)=true:=by rw [List.take_succ_eq_append_getElem hlt,List.all_append,q1]; simp [hok]
     refine zQ2 (fun (s : Int)=>∃ j : Nat,s=j∧j≤i∧∀ m (hm : m < l.length),m < j→l[i].1≠0→l[m].1≠0→l[i].2.1≠l[m].2.1) (fun s=>i - s.toNat) ?_ ⟨0,rfl,Nat.zero_le _,fun m _ hm=>absurd hm (Nat.not_lt_zero _)⟩ (zK1 _ _ (by have:=hs.1; omega))
     rintro s k2 ⟨j,rfl,hj,hno⟩ hk2
     by_cases hjt : j < i
     ·have hjl : j < l.length := by omega
      have nx : (l[i].1≠0→l[j].1≠0→l[i].2.1≠l[j].2.1)→Dat.bnd (Dat.wrap .i64 (Dat.add (j : Int) 1)) (fun x=>k2 x)=some false:=fun hh=>zQe (zZh (x:=Dat.add (j : Int) 1) (by simp only [Dat.add]; have:=hs.1; omega)) (hk2 _ ⟨j+1,rfl,hjt,fun m hm hmj=>by
       by_cases e : m=j
       ·subst e; exact hh
       ·exact hno m hm (by omega)⟩ (by simp only [Dat.add]; omega))
      refine zQi (decide_eq_true (by omega)) ?_
      refine zQb (hix hlt) (zQe (fget l hlt) ?_)
      by_cases k0 : l[i].1=0
      ·exact zQh (by simp [Dat.ine,k0]) (nx fun h=>absurd k0 h)
      ·refine zQi (by simp [Dat.ine, k0]) ?_
       refine zQb (hix hjl) (zQe (fget l hjl) ?_)
       by_cases k1 : l[j].1=0
       ·exact zQh (by simp [Dat.ine,Dat.zQg,k1]) (nx fun _ h=>absurd k1 h)
       ·refine zQi (by simp [Dat.ine, Dat.zQg, k1]) ?_
        refine zQb (hix hlt) (zQe (fget l hlt) ?_)
        refine zQb (hix hjl) (zQe (fget l hjl) ?_)
        by_cases k2 : l[i].2.1=l[j].2.1
        ·exact zQi (by simp [Dat.ieq,Dat.zQg,k2]) rfl
        ·exact zQh (by simp [Dat.ieq,Dat.zQg,k2]) (nx fun _ _=>k2)
     ·refine zQh (decide_eq_false (by omega)) ?_
      refine zQe (zZh (x:=Dat.add (i : Int) 1) (by simp only [Dat.add]; have:=hs.1; omega)) (hk _ ⟨i+1,rfl,hlt,all', ?_⟩ (by simp only [Dat.add]; omega))
      rw [xY8] at q2 ⊢
      intro m n hm hn hmn y1 y2
      simp only [List.length_take] at hm hn
      simp only [List.getElem_take] at y1 y2 ⊢
      by_cases e : n=i
      ·subst e
       exact fun e=>hno m (by omega) (by omega) y2 y1 e.symm
      ·have := q2 m n (by simp; omega) (by simp; omega) hmn (by simpa using y1) (by simpa using y2)
       simpa using this
   ·exfalso
    rw [List.take_of_length_le (by omega)] at q1 q2
    exact hm ⟨h1,⟨by omega,by omega⟩,q1,q2⟩
  ·exact zQi (by simp [Dat.ine,Dat.ofN,Dat.len,h1]) rfl
theorem zZr (c : CfgT) (l : List FrT) (h : Int) (hs : zW0 l) : zZu (c,(l,(h,())))=some (chkF c l h):=by
 unfold zZu chkF
 dsimp only
 refine zQp (yXt c) ?_
 cases hm : mayB c with
 | false=>exact zQi rfl rfl
 | true =>
  refine zQh rfl ?_
  obtain ⟨b,h1,h2⟩:=xXo c l h hs
  unfold mayF at h2
  refine zQp h1 ?_
  rw [if_pos rfl]
  cases b with
  | true =>
   rw [if_pos (h2.1 rfl)]
   exact zQh rfl rfl
  | false =>
   rw [if_neg (fun k=>by have:=h2.2 k; cases this)]
   exact zQi rfl rfl
theorem yZt (l : List FrT) (h pg : Int) (hs : zW0 l) : yZu ((l,(h,())),pg)=some (match atF l pg with | some i=>(i : Int) | none=>-1):=by
 unfold yZu
 dsimp only
 refine zQ2 (fun (s : Int)=>∃ i : Nat,s=i∧i≤l.length∧∀ j (hj : j < l.length),j < i→¬ (l[j].1≠0∧l[j].2.1=pg)) (fun s=>l.length - s.toNat) ?_ ⟨0,rfl,Nat.zero_le _,fun _ _ h=>absurd h (Nat.not_lt_zero _)⟩ (zK1 _ _ (by have:=hs.1; omega))
 rintro s k ⟨i,rfl,hi,hno⟩ hk
 by_cases hlt : i < l.length
 ·refine zQi (decide_eq_true (by simp only [Dat.ofN, Dat.len]; omega)) ?_
  have hix : Dat.Ix (i : Int) (Dat.len l):=⟨by omega,by simp only [Dat.len]; omega⟩
  refine zQb hix ?_
  refine zQe (fget l hlt) ?_
  have go : ¬ (l[i].1≠0∧l[i].2.1=pg)→Dat.bnd (Dat.wrap .i64 (Dat.add (i : Int) 1)) (fun x=>k x)=some (match atF l pg with | some i=>(i : Int) | none=>-1):=fun hn =>
   zQe (zZh (x:=Dat.add (i : Int) 1) (by simp only [Dat.add]; have:=hs.1; omega)) (hk _ ⟨i+1,rfl,hlt,fun j hj hji=>by
    by_cases e : j=i
    ·subst e; exact hn
    ·exact hno j hj (by omega)⟩ (by simp only [Dat.add]; omega))
  by_cases h0 : l[i].1=0
  ·exact zQh (by simp [Dat.ine,h0]) (go (fun hx=>hx.1 h0))
  ·refine zQi (by simp [Dat.ine, h0]) ?_
   refine zQb hix ?_
   refine zQe (fget l hlt) ?_
   by_cases hp : l[i].2.1=pg
   ·refine zQi (by simp [Dat.zQg, Dat.ieq, hp]) ?_
    have : atF l pg=some i:=by
     unfold atF
     rw [List.findIdx?_eq_some_iff_getElem]
     exact ⟨hlt,decide_eq_true ⟨h0,hp⟩,fun j hj=>by simp only [decide_eq_true_eq]; exact hno j (by omega) hj⟩
    rw [this]
   ·exact zQh (by simp [Dat.zQg,Dat.ieq,hp]) (go (fun hx=>hp hx.2))
 ·refine zQh (decide_eq_false (by simp only [Dat.ofN, Dat.len]; omega)) ?_
  have : atF l pg=none:=by
   unfold atF
   rw [List.findIdx?_eq_none_iff]
   intro x hx
   obtain ⟨j,hj,rfl⟩:=List.getElem_of_mem hx
   exact decide_eq_false (hno j hj (by omega))
  rw [this]
end Go.Proofs.Ytablhcjjfiepaaa
