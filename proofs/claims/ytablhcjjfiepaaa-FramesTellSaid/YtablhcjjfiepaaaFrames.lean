/- Frames: whether they may be. -/
import Derived.Test.YtablhcjjfiepaaaConf
import Derived.Test.YtablhcjjfiepaaaMaps
import Derived.Test.YtablhcjjfiepaaaStep2
namespace Go.Proofs.Ytablhcjjfiepaaa
open Go.Eng
set_option linter.unusedVariables false
set_option linter.unusedSimpArgs false
abbrev FrT:=Int×(Int×(List Int×(List Int×(Bool×(Bool×Unit)))))
theorem fget (l : List FrT) {i : Nat} (h : i < l.length) : Dat.get l (Dat.toN (i : Int)) (0,(0,(([] : List Int),(([] : List Int),(false,(false,()))))))=l[i]:=by
 simp [Dat.get,Dat.toN,List.getD,h]
theorem iget (l : List Int) {i : Nat} (h : i < l.length) : Dat.get l (Dat.toN (i : Int)) 0=l[i]:=by
 simp [Dat.get,Dat.toN,List.getD,h]
theorem yZb (l : List FrT) (h p : Int) : zKs ((l,h,()),p)=some (decide (0≤p∧p < l.length)):=by
 unfold zKs
 by_cases h0 : p ≥ 0
 ·refine zQi (decide_eq_true h0) ?_
  simp only [Dat.zQg,Dat.ilt,Dat.ofN,Dat.len]
  congr 1
  by_cases h1 : p < l.length<;>simp [h1]; omega
 ·refine zQh (decide_eq_false h0) ?_
  congr 1
  exact (decide_eq_false (by omega)).symm
def pinB (p : List Int) : Bool:=p.any fun n=>decide (0 < n)
theorem yQy (n : Int) : zKn n=some (decide (0 < n)):=rfl
theorem xK0 {p : List Int} {i : Nat} (hi : i < p.length) : pinB (p.take (i+1))=(pinB (p.take i) || decide (0 < p[i])):=by
 unfold pinB
 rw [List.take_succ_eq_append_getElem hi,List.any_append]; simp
theorem wWw {p : List Int} {i : Nat} (hi : i < p.length) (h : 0 < p[i]) : pinB p=true:=List.any_eq_true.2 ⟨p[i],List.getElem_mem hi,decide_eq_true h⟩
theorem zK6 (x : FrT) (hl : x.2.2.2.1.length≤1000) : zWl x=some (pinB x.2.2.2.1):=by
 obtain ⟨k,pg,dt,p,rf,dr,_⟩:=x
 unfold zWl
 dsimp only at hl ⊢
 refine zQ2 (fun (s : Int)=>∃ i : Nat,s=i∧i≤p.length∧pinB (p.take i)=false) (fun s=>p.length - s.toNat) ?_ ⟨0,rfl,Nat.zero_le _,rfl⟩ (zK1 _ _ (by omega))
 rintro s k ⟨i,rfl,hi,hp⟩ hk
 by_cases hlt : i < p.length
 ·refine zQi (decide_eq_true (by simp only [Dat.ofN, Dat.len]; omega)) ?_
  refine zQb ⟨by omega,by simp only [Dat.len]; omega⟩ ?_
  refine zQe (iget p hlt) ?_
  refine zQp (yQy _) ?_
  by_cases h0 : 0 < p[i]
  ·refine zQi (decide_eq_true h0) ?_
   rw [wWw hlt h0]
   congr 1
  ·refine zQh (decide_eq_false h0) ?_
   refine zQe (zZh (x:=Dat.add (i : Int) 1) (by simp only [Dat.add]; omega)) ?_
   exact hk _ ⟨i+1,rfl,hlt,by rw [xK0 hlt,hp,decide_eq_false h0]; rfl⟩ (by simp only [Dat.add]; omega)
 ·refine zQh (decide_eq_false (by simp only [Dat.ofN, Dat.len]; omega)) ?_
  rw [List.take_of_length_le (by omega)] at hp
  rw [hp]
  rfl
def xQ4 (p : List Int) : Bool:=p.all fun n=>decide (0≤n∧n≤8)
def okF (c : CfgT) (x : FrT) : Bool :=
  decide ((x.2.2.2.1.length : Int)=c.2.2.2.2.2.2.1)&&xQ4 x.2.2.2.1 &&
  (if x.1 = 0 then decide (x.2.1 = 0 ∧ x.2.2.1.length = 0) && !pinB x.2.2.2.1 && !x.2.2.2.2.1 && !x.2.2.2.2.2.1
   else if x.1=1 then decide (0≤x.2.1∧x.2.1 < c.1∧x.2.2.1.length=0)&&!x.2.2.2.2.2.1&&pinB x.2.2.2.1
   else if x.1=2 then decide (0≤x.2.1∧x.2.1 < c.1∧(x.2.2.1.length : Int)=c.2.1) else false)
theorem vWe {α : Type} (P : Prop) [Decidable P] (a b : α) : (if P then a else b)=bif decide P then a else b:=by by_cases h : P<;>simp [h]
theorem vWm (a b : Int) : Dat.ieq a b=decide (a=b):=by rw [Bool.eq_iff_iff]; simp [Dat.ieq]
theorem yJn (c : CfgT) (x : FrT) (hl : x.2.2.2.1.length≤1000) : zYa (c,x)=some (okF c x):=by
 unfold zYa okF
 dsimp only
 by_cases hn : (x.2.2.2.1.length : Int)=c.2.2.2.2.2.2.1
 ·refine zQh (by simp [Dat.ine, Dat.ofN, Dat.len, hn]) ?_
  rw [decide_eq_true hn,Bool.true_and]
  refine zQ2 (fun (s : Int)=>∃ i : Nat,s=i∧i≤x.2.2.2.1.length∧xQ4 (x.2.2.2.1.take i)=true) (fun s=>x.2.2.2.1.length - s.toNat) ?_ ⟨0,rfl,Nat.zero_le _,rfl⟩ (zK1 _ _ (by omega))
  rintro s k ⟨i,rfl,hi,hp⟩ hk
  by_cases hlt : i < x.2.2.2.1.length
  ·refine zQi (decide_eq_true (by simp only [Dat.ofN, Dat.len]; omega)) ?_
   refine zQb ⟨by omega,by simp only [Dat.len]; omega⟩ ?_
   refine zQe (iget _ hlt) ?_
   have bad : ¬ (0≤x.2.2.2.1[i]∧x.2.2.2.1[i]≤8)→xQ4 x.2.2.2.1=false:=fun h=>List.all_eq_false.2 ⟨_,List.getElem_mem hlt,by simp only [decide_eq_true_eq]; exact h⟩
   by_cases h0 : x.2.2.2.1[i] < 0
   ·refine zQi (decide_eq_true h0) ?_
    rw [bad (by omega)]; rfl
   ·refine zQh (decide_eq_false h0) ?_
    by_cases h8 : x.2.2.2.1[i] > 8
    ·refine zQi (by simp [Dat.zQg, Dat.igt, h8]) ?_
     rw [bad (by omega)]; rfl
    ·refine zQh (by simp [Dat.zQg, Dat.igt, h8]) ?_
     refine zQe (zZh (x:=Dat.add (i : Int) 1) (by simp only [Dat.add]; omega)) ?_
     refine hk _ ⟨i+1,rfl,hlt, ?_⟩ (by simp only [Dat.add]; omega)
     unfold xQ4 at hp ⊢
     rw [List.take_succ_eq_append_getElem hlt,List.all_append,hp]
     simp; omega
  ·refine zQh (decide_eq_false (by simp only [Dat.ofN, Dat.len]; omega)) ?_
   rw [List.take_of_length_le (by omega)] at hp
   rw [hp,Bool.true_and]
   have hpin : ∀ a b,zWl (x.1,(x.2.1,(x.2.2.1,(x.2.2.2.1,(a,(b,()))))))=some (pinB x.2.2.2.1):=fun a b=>zK6 _ hl
   have hdz : Dat.ieq (Dat.ofN (Dat.len x.2.2.1)) 0=decide (x.2.2.1.length=0):=by
    rw [Bool.eq_iff_iff]; simp only [Dat.ieq,beq_iff_eq,decide_eq_true_eq,Dat.ofN,Dat.len]; omega
   have hdc : Dat.ieq (Dat.ofN (Dat.len x.2.2.1)) c.2.1=decide ((x.2.2.1.length : Int)=c.2.1):=by
    rw [Bool.eq_iff_iff]; simp only [Dat.ieq,beq_iff_eq,decide_eq_true_eq,Dat.ofN,Dat.len]
   simp only [hpin,Dat.bind_some,hdz,hdc,vWm]
   simp only [Dat.ige,Dat.ilt,Dat.zQg,Dat.bnot,ge_iff_le,Bool.decide_and,vWe]
   cases decide (0 ≤ x.2.1) <;> cases decide (x.2.1 < c.1) <;> cases decide (x.2.1 = 0) <;> cases decide (x.1 = 0) <;> cases decide (x.1 = 1) <;> cases decide (x.1 = 2) <;> cases decide (x.2.2.1.length = 0) <;> cases decide ((x.2.2.1.length : Int) = c.2.1) <;>
    cases pinB x.2.2.2.1<;>cases x.2.2.2.2.1<;>cases x.2.2.2.2.2.1<;>rfl
 ·refine zQi (by simp [Dat.ine, Dat.ofN, Dat.len, hn]) ?_
  rw [decide_eq_false hn]; rfl
def zZ8 (l : List FrT) : List Int:=(l.filter fun x=>decide (x.1≠0)).map fun x=>x.2.1
noncomputable def chkF (c : CfgT) (l : List FrT) (h : Int) : Int :=
 if mayB c=true then (if (l.length : Int)=c.2.2.2.2.2.1∧(0≤h∧h < l.length)∧l.all (okF c)=true∧(zZ8 l).Nodup then 0 else 8) else 8
theorem wWz {l : List FrT} {i : Nat} (hi : i < l.length) : zZ8 (l.take (i+1))=zZ8 (l.take i)++(if l[i].1=0 then [] else [l[i].2.1]):=by
 unfold zZ8
 rw [List.take_succ_eq_append_getElem hi,List.filter_append,List.map_append]
 congr 1
 by_cases h : l[i].1=0<;>simp [h]
theorem wK1 {l : List FrT} (i : Nat) (h : (zZ8 l).Nodup) : (zZ8 (l.take i)).Nodup:=by
 refine h.sublist ?_
 unfold zZ8
 exact ((List.take_sublist i l).filter _).map _
theorem zYx (c : CfgT) (l : List FrT) (h : Int) (hl : l.length≤1000) (hp : ∀ x∈l,x.2.2.2.1.length≤1000) : zXi (c,l,h,())=some (chkF c l h):=by
 unfold zXi chkF
 dsimp only
 refine zQp (yWw c) ?_
 cases hm : mayB c with
 | false=>rfl
 | true =>
  rw [if_pos rfl,if_pos rfl]
  refine zQh rfl ?_
  by_cases hn : (l.length : Int)=c.2.2.2.2.2.1
  ·refine zQh (by simp [Dat.ine, Dat.ofN, Dat.len, hn]) ?_
   refine zQp (yZb l h h) ?_
   by_cases hh : 0≤h∧h < l.length
   ·refine zQh (by simp [Dat.zQg, Dat.bnot, hh]) ?_
    refine zQ2 (fun (s : Int × List (Int × Int)) => ∃ i : Nat, i ≤ l.length ∧ s.1 = i ∧ (∀ x, (mval s.2 x).getD 0 = if x ∈ zZ8 (l.take i) then 1 else 0) ∧ (l.take i).all (okF c) = true ∧ (zZ8 (l.take i)).Nodup)
     (fun s=>l.length - s.1.toNat) ?_ ⟨0,by omega,rfl,by simp [zZ8,mval,Dat.zKv],by simp,by simp [zZ8]⟩ (zK1 _ _ (by omega))
    rintro ⟨s1,s2⟩ k ⟨i,hi,rfl,hes,hall,hnd⟩ hk
    dsimp only at hes ⊢
    by_cases hlt : i < l.length
    ·refine zQi (decide_eq_true (by simp only [Dat.ofN, Dat.len]; omega)) ?_
     refine zQb ⟨by omega,by simp only [Dat.len]; omega⟩ ?_
     refine zQe (fget l hlt) ?_
     have hpg:=wWz hlt
     have hall' : (l.take (i+1)).all (okF c)=((l.take i).all (okF c)&&okF c l[i]):=by rw [List.take_succ_eq_append_getElem hlt,List.all_append]; simp
     have hmem : l[i]∈l:=List.getElem_mem hlt
     refine zQp (yJn c (l[i].1,(l[i].2.1,(l[i].2.2.1,(l[i].2.2.2.1,(l[i].2.2.2.2.1,(l[i].2.2.2.2.2.1,())))))) (hp _ hmem)) ?_
     change (bif Dat.bnot (okF c l[i]) then _ else _)=_
     cases hok : okF c l[i] with
     | false =>
      refine zQi rfl ?_
      rw [if_neg]
      rintro ⟨_,_,h3,_⟩
      have:=List.all_eq_true.1 h3 _ hmem
      rw [hok] at this; cases this
     | true =>
      refine zQh rfl ?_
      by_cases k0 : l[i].1=0
      ·refine zQi (decide_eq_true k0) ?_
       refine zQe (zZh (x:=Dat.add (i : Int) 1) (by simp only [Dat.add]; omega)) ?_
       rw [if_pos k0,List.append_nil] at hpg
       exact hk _ ⟨i+1,hlt,rfl,by rw [hpg]; exact hes,by rw [hall',hall,hok]; rfl,by rw [hpg]; exact hnd⟩ (by simp only [Dat.add]; omega)
      ·refine zQh (decide_eq_false k0) ?_
       rw [if_neg k0] at hpg
       have hv : ((mval s2 l[i].2.1).getD 0 : Int)=if l[i].2.1∈zZ8 (l.take i) then 1 else 0:=hes _
       refine zQe (wW3 s2 l[i].2.1) ?_
       by_cases hin : l[i].2.1∈zZ8 (l.take i)
       ·rw [hv, if_pos hin]
        refine zQe (zZh (x:=Dat.add 1 1) (by decide)) ?_
        refine zQe rfl ?_
        refine zQe (wW3 _ _) ?_
        rw [xJg,if_pos rfl]
        refine zQi rfl ?_
        rw [if_neg]
        rintro ⟨_,_,_,h4⟩
        have:=wK1 (i+1) h4
        rw [hpg] at this
        have:=(List.nodup_append.1 this).2.2
        exact this _ hin _ (by simp) rfl
       ·rw [hv, if_neg hin]
        refine zQe (zZh (x:=Dat.add 0 1) (by decide)) ?_
        refine zQe rfl ?_
        refine zQe (wW3 _ _) ?_
        rw [xJg,if_pos rfl]
        refine zQh rfl ?_
        refine zQe (zZh (x:=Dat.add (i : Int) 1) (by simp only [Dat.add]; omega)) ?_
        refine hk _ ⟨i+1,hlt,rfl, ?_,by rw [hall',hall,hok]; rfl, ?_⟩ (by simp only [Dat.add]; omega)
        ·intro x
         rw [xJg,hpg]
         by_cases hx : x=l[i].2.1
         ·subst hx; simp
         ·rw [if_neg hx,hes x]; simp [hx]
        ·rw [hpg]
         exact List.nodup_append.2 ⟨hnd,by simp,fun a ha b hb=>by simp at hb; subst hb; rintro rfl; exact hin ha⟩
    ·refine zQh (decide_eq_false (by simp only [Dat.ofN, Dat.len]; omega)) ?_
     rw [List.take_of_length_le (by omega)] at hall hnd
     rw [if_pos ⟨hn,hh,hall,hnd⟩]
   ·refine zQi (by simp [Dat.zQg, Dat.bnot, hh]) ?_
    rw [if_neg (fun x=>hh x.2.1)]
  ·refine zQi (by simp [Dat.ine, Dat.ofN, Dat.len, hn]) ?_
   rw [if_neg (fun x=>hn x.1)]
theorem vXa {c : CfgT} {l : List FrT} {h : Int} (k : chkF c l h=0) : mayB c=true∧(l.length : Int)=c.2.2.2.2.2.1∧(0≤h∧h < l.length)∧l.all (okF c)=true∧(zZ8 l).Nodup:=by
 unfold chkF at k
 split at k
 ·rename_i hm
  split at k
  ·rename_i hx; exact ⟨hm,hx⟩
  ·simp at k
 ·simp at k
theorem vKj (c : CfgT) (l : List FrT) (h : Int) : chkF c l h=0∨chkF c l h=8:=by
 unfold chkF
 split
 ·split
  ·exact .inl rfl
  ·exact .inr rfl
 ·exact .inr rfl
end Go.Proofs.Ytablhcjjfiepaaa
