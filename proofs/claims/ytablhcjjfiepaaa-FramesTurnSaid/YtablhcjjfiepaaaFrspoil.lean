/- Answers written over. -/
import Derived.Test.YtablhcjjfiepaaaFrrep
import Derived.Test.YtablhcjjfiepaaaFrstay
namespace Go.Proofs.Ytablhcjjfiepaaa
open Go.Eng
set_option linter.unusedVariables false
set_option linter.unusedSimpArgs false
abbrev SpS:=Int×(List (List Int)×(List (List Int)×List (List MFr)))
theorem zJt {β : Type} {X : AnsR} {A : AnsF} {ds : List (MixE Int × MixE Int)} (hS : SpoilF X A ds) (hA : zWo A.1.1) {r : β} {fin : SpS → Option β} (hfin : ∀ s, fin s = some r) {m : MixE MFr} (hm : X.2.1.1 = m) :
    Dat.loop (fun (s29 : SpS) k30 =>
 (bif (Dat.ilt s29.1 (Dat.ofN (Dat.xlen m))) then if (Dat.Ix s29.1 (Dat.xlen m)) then if (Dat.XPt s29.2.2.2 m (Dat.toN s29.1)) then if (Dat.XPt s29.2.2.2 m (Dat.toN s29.1)) then if (Dat.XPt s29.2.2.2 m (Dat.toN s29.1)) then Dat.bnd (Dat.xat s29.2.2.2 m (Dat.toN s29.1) (0,(0,((MixE.nil : MixE Int),((MixE.nil : MixE Int),(false,(false,()))))))) fun (x39 : MFr) =>
 Dat.bnd (Dat.xset s29.2.2.2 m (Dat.toN s29.1) (x39.1,((-7),(x39.2.2.1,(x39.2.2.2.1,(x39.2.2.2.2.1,(x39.2.2.2.2.2.1,()))))))) fun (x40 : List (List MFr)) =>
 Dat.loop (fun (s41 : Int×(List (List Int))) k42 =>
 if (Dat.Ix s29.1 (Dat.xlen m)) then if (Dat.XPt x40 m (Dat.toN s29.1)) then if (Dat.XPt x40 m (Dat.toN s29.1)) then if (Dat.XPt x40 m (Dat.toN s29.1)) then Dat.bnd (Dat.xat x40 m (Dat.toN s29.1) (0,(0,((MixE.nil : MixE Int),((MixE.nil : MixE Int),(false,(false,()))))))) fun (x51 : MFr) =>
 (bif (Dat.ilt s41.1 (Dat.ofN (Dat.xlen x51.2.2.1))) then if (Dat.Ix s29.1 (Dat.xlen m)) then if (Dat.XPt x40 m (Dat.toN s29.1)) then if (Dat.XPt x40 m (Dat.toN s29.1)) then if (Dat.XPt x40 m (Dat.toN s29.1)) then Dat.bnd (Dat.xat x40 m (Dat.toN s29.1) (0,(0,((MixE.nil : MixE Int),((MixE.nil : MixE Int),(false,(false,()))))))) fun (x60 : MFr) =>
 if (Dat.Ix s29.1 (Dat.xlen m)) then if (Dat.XPt x40 m (Dat.toN s29.1)) then if (Dat.XPt x40 m (Dat.toN s29.1)) then if (Dat.XPt x40 m (Dat.toN s29.1)) then Dat.bnd (Dat.xat x40 m (Dat.toN s29.1) (0,(0,((MixE.nil : MixE Int),((MixE.nil : MixE Int),(false,(false,()))))))) fun (x69 : MFr) =>
 if (Dat.Ix s41.1 (Dat.xlen x69.2.2.1)) then if (Dat.XPt s41.2 x69.2.2.1 (Dat.toN s41.1)) then if (Dat.XPt s41.2 x69.2.2.1 (Dat.toN s41.1)) then Dat.bnd (Dat.xat s41.2 x69.2.2.1 (Dat.toN s41.1) 0) fun (x76 : Int) =>
 Dat.bnd (Dat.wrap .u8 (Dat.add x76 1)) fun (x77 : Int) =>
 if (Dat.Ix s41.1 (Dat.xlen x60.2.2.1)) then if (Dat.XPt s41.2 x60.2.2.1 (Dat.toN s41.1)) then if (Dat.XPt s41.2 x60.2.2.1 (Dat.toN s41.1)) then Dat.bnd (Dat.xset s41.2 x60.2.2.1 (Dat.toN s41.1) x77) fun (x84 : List (List Int)) =>
 Dat.bnd (Dat.wrap .i64 (Dat.add s41.1 1)) fun (x85 : Int) =>
 k42 (x85,x84)
 else none
 else none
 else none
 else none
 else none
 else none
 else none
 else none
 else none
 else none
 else none
 else none
 else none
 else none
 else Dat.loop (fun (s86 : Int×(List (List Int))) k87 =>
 if (Dat.Ix s29.1 (Dat.xlen m)) then if (Dat.XPt x40 m (Dat.toN s29.1)) then if (Dat.XPt x40 m (Dat.toN s29.1)) then if (Dat.XPt x40 m (Dat.toN s29.1)) then Dat.bnd (Dat.xat x40 m (Dat.toN s29.1) (0,(0,((MixE.nil : MixE Int),((MixE.nil : MixE Int),(false,(false,()))))))) fun (x96 : MFr) =>
 (bif (Dat.ilt s86.1 (Dat.ofN (Dat.xlen x96.2.2.2.1))) then if (Dat.Ix s29.1 (Dat.xlen m)) then if (Dat.XPt x40 m (Dat.toN s29.1)) then if (Dat.XPt x40 m (Dat.toN s29.1)) then if (Dat.XPt x40 m (Dat.toN s29.1)) then Dat.bnd (Dat.xat x40 m (Dat.toN s29.1) (0,(0,((MixE.nil : MixE Int),((MixE.nil : MixE Int),(false,(false,()))))))) fun (x105 : MFr) =>
 if (Dat.Ix s86.1 (Dat.xlen x105.2.2.2.1)) then if (Dat.XPt s86.2 x105.2.2.2.1 (Dat.toN s86.1)) then if (Dat.XPt s86.2 x105.2.2.2.1 (Dat.toN s86.1)) then Dat.bnd (Dat.xset s86.2 x105.2.2.2.1 (Dat.toN s86.1) (-7)) fun (x112 : List (List Int)) =>
 Dat.bnd (Dat.wrap .i64 (Dat.add s86.1 1)) fun (x113 : Int) =>
 k87 (x113,x112)
 else none
 else none
 else none
 else none
 else none
 else none
 else none
 else Dat.bnd (Dat.wrap .i64 (Dat.add s29.1 1)) fun (x114 : Int) =>
 k30 (x114,(s86.2,(s41.2,x40))))
 else none
 else none
 else none
 else none) (0,s29.2.1))
 else none
 else none
 else none
 else none) (0,s29.2.2.1)
 else none
 else none
 else none
 else none
 else fin s29)) (0,(X.1.2.1,(X.1.1,X.1.2.2)))=some r:=by
  obtain ⟨_,_,hrow,hlen,_,_,hat⟩:=hS
  subst hm
  generalize X.2.1.1=m at *
  obtain ⟨⟨Qd,Qp,R⟩,_⟩:=X
  dsimp only at hrow hat ⊢
  have hl20:=hA.1
  rw [vKu hrow]
  refine zWm (fun (s : SpS)=>∃ i : Nat,s.1=(i : Int)∧i≤ds.length∧Shape s.2.1 Qp∧Shape s.2.2.1 Qd∧RowF s.2.2.2 m ds) (fun s=>ds.length - s.1.toNat) ?_ ⟨0,rfl,Nat.zero_le _,xZ8 _,xZ8 _,hrow⟩ (yWf _ _ (by omega))
  rintro ⟨s1,s2,s3,s4⟩ k ⟨i,rfl,hi,hp,hd,hr⟩ hk
  dsimp only at hp hd hr ⊢
  by_cases hlt : i < ds.length
  · have hix : Dat.Ix (i : Int) ds.length := ⟨by omega, by omega⟩
    have hpt:=vWh hr hlt
    obtain ⟨b,hbat,hed⟩:=vWi hr hlt (0,(0,((MixE.nil : MixE Int),((MixE.nil : MixE Int),(false,(false,()))))))
    have hr2:=vKt hr hlt (e:=(b.1,((-7),(b.2.2.1,(b.2.2.2.1,(b.2.2.2.2.1,(b.2.2.2.2.2.1,()))))))) hed
    have hpt2:=vWh hr2 hlt
    obtain ⟨b',hbat2,hed2⟩:=vWi hr2 hlt (0,(0,((MixE.nil : MixE Int),((MixE.nil : MixE Int),(false,(false,()))))))
    refine zQe (decide_eq_true (by simp only [Dat.ofN]; omega)) ?_
    refine zQa hix (zQa hpt (zQa hpt (zQa hpt ?_)))
    refine zQc hbat ?_
    refine zQc rfl ?_
    generalize Dat.xset s4 m (Dat.toN (i : Int)) (b.1,((-7),(b.2.2.1,(b.2.2.2.1,(b.2.2.2.2.1,(b.2.2.2.2.2.1,()))))))=s5 at *
    have hla : i < A.1.1.length:=by omega
    obtain ⟨hsd,hsp⟩:=hat i hlt hla
    have hsm:=hA.2 _ (List.getElem_mem hla)
    rw [← hed2] at hsd hsp
    generalize A.1.1[i].2.2.1=dd at *
    generalize A.1.1[i].2.2.2.1=pp at *
    dsimp only at hsd hsp
    have hel:=wXw hsd
    have hep:=wXw hsp
    have hk' : ∀ P' D',Shape P' Qp→Shape D' Qd→k (((i+1 : Nat) : Int),(P',(D',s5)))=some r:=fun P' D' h1 h2=>hk _ ⟨i+1,rfl,hlt,h1,h2,hr2⟩ (by show ds.length - (((i+1 : Nat) : Int)).toNat < ds.length - ((i : Int)).toNat; omega)
    refine zWm (fun (s : Int×List (List Int))=>∃ q : Nat,s.1=(q : Int)∧q≤dd.length∧Shape s.2 Qd) (fun s=>dd.length - s.1.toNat) ?_ ⟨0,rfl,Nat.zero_le _,hd⟩ (yWf _ _ (by omega))
    rintro ⟨u1,u2⟩ k2 ⟨q,rfl,hq,hsh2⟩ hk2
    dsimp only at hsh2 ⊢
    refine zQa hix (zQa hpt2 (zQa hpt2 (zQa hpt2 (zQc hbat2 ?_))))
    by_cases hql : q < dd.length
    · have hp2 : Dat.XPt u2 b'.2.2.1 (Dat.toN (q : Int)) := vYa hsd hsh2 hql
      have hx2:=vYc hsd hql
      refine zQe (decide_eq_true (by simp only [Dat.ofN,hel]; omega)) ?_
      refine zQa hix (zQa hpt2 (zQa hpt2 (zQa hpt2 (zQc hbat2 ?_))))
      refine zQa hix (zQa hpt2 (zQa hpt2 (zQa hpt2 (zQc hbat2 ?_))))
      refine zQa hx2 (zQa hp2 (zQa hp2 (zQc rfl (zQc rfl ?_))))
      refine zQa hx2 (zQa hp2 (zQa hp2 (zQc rfl ?_)))
      refine zQc (y:=((q+1 : Nat) : Int)) (Dat.zJm (by omega)) ?_
      exact hk2 _ ⟨q+1,rfl,hql,wQh hsh2 _ _ _⟩ (by show dd.length - (((q+1 : Nat) : Int)).toNat < dd.length - ((q : Int)).toNat; omega)
    · refine zQf (decide_eq_false (by simp only [Dat.ofN, hel]; omega)) ?_
      refine zWm (fun (s : Int×List (List Int))=>∃ q : Nat,s.1=(q : Int)∧q≤pp.length∧Shape s.2 Qp) (fun s=>pp.length - s.1.toNat) ?_ ⟨0,rfl,Nat.zero_le _,hp⟩ (yWf _ _ (by omega))
      rintro ⟨v1,v2⟩ k3 ⟨q,rfl,hq,hsh3⟩ hk3
      dsimp only at hsh3 ⊢
      refine zQa hix (zQa hpt2 (zQa hpt2 (zQa hpt2 (zQc hbat2 ?_))))
      by_cases hql3 : q < pp.length
      · have hp2 : Dat.XPt v2 b'.2.2.2.1 (Dat.toN (q : Int)) := vYa hsp hsh3 hql3
        have hx2:=vYc hsp hql3
        refine zQe (decide_eq_true (by simp only [Dat.ofN,hep]; omega)) ?_
        refine zQa hix (zQa hpt2 (zQa hpt2 (zQa hpt2 (zQc hbat2 ?_))))
        refine zQa hx2 (zQa hp2 (zQa hp2 (zQc rfl ?_)))
        refine zQc (y:=((q+1 : Nat) : Int)) (Dat.zJm (by omega)) ?_
        exact hk3 _ ⟨q+1,rfl,hql3,wQh hsh3 _ _ _⟩ (by show pp.length - (((q+1 : Nat) : Int)).toNat < pp.length - ((q : Int)).toNat; omega)
      · refine zQf (decide_eq_false (by simp only [Dat.ofN, hep]; omega)) ?_
        refine zQc (y:=((i+1 : Nat) : Int)) (Dat.zJm (by omega)) ?_
        exact hk' _ _ hsh3 hsh2
  · refine zQf (decide_eq_false (by simp only [Dat.ofN]; omega)) ?_
    exact hfin _
theorem xKa {β : Type} {X : AnsR} {A : AnsF} {ds : List (MixE Int × MixE Int)} (hS : SpoilF X A ds) (hA : zWo A.1.1) {r : β} {K : Bool → Option β} {f : MFr → Option FrT}
  (hf : ∀ e,Dat.XOk X.1.1 e.2.2.1→Dat.XOk X.1.2.1 e.2.2.2.1→f e=some (e.1,(e.2.1,((Dat.xget X.1.1 e.2.2.1),((Dat.xget X.1.2.1 e.2.2.2.1),(e.2.2.2.2.1,(e.2.2.2.2.2.1,e.2.2.2.2.2.2))))))) (hk : K true=some r) :
  (if Dat.XOk X.1.2.2 X.2.1.1 then Dat.bind (Dat.mapO f (Dat.xget X.1.2.2 X.2.1.1)) fun x=>Dat.bind (zXy ((x,(X.2.1.2.1,())),(A.1.1,(A.1.2.1,())))) K else none)=some r:=by
 refine zQa hS.ok ?_
 refine zQj (wZj hS.get hf) ?_
 rw [hS.hand]
 exact zQj (yWp _ _ hA) hk
theorem zJw {c : CfgT} {l : List FrT} {h a : Int} {A : AnsF} (hg : xX5 c l h a A) : zWo A.1.1:=by
 rcases hg with ⟨e,he,rfl⟩ | ⟨n,rfl,hn,y,rfl,hc,hsm⟩
 ·exact ⟨by simp [badF],fun x hx=>by simp [badF] at hx⟩
 ·exact hsm
theorem xKz {X : AnsR} {A : AnsF} {ds : List (MixE Int×MixE Int)} (hS : SpoilF X A ds) : Dat.zQd true (Dat.ieq X.2.2 A.2) false=true:=by rw [hS.err]; simp [Dat.zQd,Dat.ieq]
end Go.Proofs.Ytablhcjjfiepaaa
