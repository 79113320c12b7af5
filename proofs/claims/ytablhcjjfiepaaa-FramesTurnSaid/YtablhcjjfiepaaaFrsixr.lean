/- Frames: what each call turns, the answer's rows in places. -/
import Derived.Test.YtablhcjjfiepaaaFrsixb
import Derived.Test.YtablhcjjfiepaaaSeg
namespace Go.Proofs.Ytablhcjjfiepaaa
open Go.Eng
set_option linter.unusedVariables false
set_option linter.unusedSimpArgs false
abbrev AnsR:=((List (List Int))×((List (List Int))×(List (List MFr))))×(((MixE MFr)×(Int×Unit))×Int)
def badR (e : Int) : AnsR:=(([],([],[])),((.nil,(0,())),e))
def okR (h : Int) (Q1 Q2 : List (List Int)) (M : List MFr) : AnsR:=((Q1,(Q2,[M])),((Dat.xnew 0 M.length,(h,())),0))
noncomputable def ansR (c : CfgT) (l : List FrT) (h : Int) (b : AnsR) : AnsR:=if chkF c l h=0 then b else badR (chkF c l h)
def dF (l : List FrT) : List (List Int):=l.map fun x=>x.2.2.1
def pF (l : List FrT) : List (List Int):=l.map fun x=>x.2.2.2.1
def xKl (c : CfgT) (l : List FrT) (h a pg cl : Int) : AnsR:=okR h (dF l) (pF l++[(List.replicate c.2.2.2.2.2.2.1.toNat 0).set cl.toNat 1]) ((mixF l.length l).set a.toNat (1,(pg,(.nil,((.ref l.length 0 c.2.2.2.2.2.2.1.toNat c.2.2.2.2.2.2.1.toNat),(true,(false,())))))))
noncomputable def vJe (c : CfgT) (l : List FrT) (h a pg cl : Int) : AnsR:=ansR c l h (if zXq c l a pg cl then xKl c l h a pg cl else badR 2)
def xKm (l : List FrT) (h a : Int) (d : List Int) : AnsR:=okR h (dF l++[d]) (pF l) ((mixF l.length l).set a.toNat (2,((elF l a).2.1,((Dat.xrow l.length d),((Dat.xrow a.toNat (elF l a).2.2.2.1),((elF l a).2.2.2.2.1,((elF l a).2.2.2.2.2.1,())))))))
noncomputable def vJo (c : CfgT) (l : List FrT) (h a : Int) (d : List Int) : AnsR:=ansR c l h (if plF l a∧(elF l a).1=1∧(d.length : Int)=c.2.1 then xKm l h a d else badR 2)
def yJ3 (l : List FrT) (h a : Int) (d : List Int) : AnsR:=okR h (dF l++[d]) (pF l) ((mixF l.length l).set a.toNat ((elF l a).1,((elF l a).2.1,((Dat.xrow l.length d),((Dat.xrow a.toNat (elF l a).2.2.2.1),(true,(true,())))))))
noncomputable def wKb (c : CfgT) (l : List FrT) (h a : Int) (d : List Int) : AnsR:=ansR c l h (if plF l a∧(elF l a).1=2∧(d.length : Int)=c.2.1 then yJ3 l h a d else badR 2)
def yJ5 (l : List FrT) (h a : Int) : AnsR:=okR h (dF l) (pF l) ((mixF l.length l).set a.toNat ((elF l a).1,((elF l a).2.1,((Dat.xrow a.toNat (elF l a).2.2.1),((Dat.xrow a.toNat (elF l a).2.2.2.1),((elF l a).2.2.2.2.1,(false,())))))))
noncomputable def wJv (c : CfgT) (l : List FrT) (h a : Int) : AnsR:=ansR c l h (if plF l a∧(elF l a).2.2.2.2.2.1=true then yJ5 l h a else badR 2)
def wYo (l : List FrT) (h a cl n : Int) (r : Bool) : AnsR:=okR h (dF l) ((pF l).set a.toNat ((elF l a).2.2.2.1.set cl.toNat n)) ((mixF l.length l).set a.toNat ((elF l a).1,((elF l a).2.1,((Dat.xrow a.toNat (elF l a).2.2.1),((Dat.xrow a.toNat (elF l a).2.2.2.1),(r,((elF l a).2.2.2.2.2.1,())))))))
noncomputable def pinR (c : CfgT) (l : List FrT) (h a cl : Int) : AnsR := ansR c l h
 (if plF l a∧clF c cl∧(elF l a).1≠0 then (if (elF l a).2.2.2.1.getD cl.toNat 0=8 then badR 260 else wYo l h a cl ((elF l a).2.2.2.1.getD cl.toNat 0+1) true) else badR 2)
noncomputable def wKj (c : CfgT) (l : List FrT) (h a cl : Int) : AnsR := ansR c l h
 (if plF l a∧clF c cl then (if (elF l a).1≠2∨(elF l a).2.2.2.1.getD cl.toNat 0=0 then badR 260 else wYo l h a cl ((elF l a).2.2.2.1.getD cl.toNat 0 - 1) (elF l a).2.2.2.2.1) else badR 2)
theorem wZr {l : List FrT} {h : Int} {a : Nat} {e : MFr} {M : List MFr} {Q1 Q2 : List (List Int)} (hM : M = (mixF l.length l).set a e) :
  (if Dat.EqN 0 0 then (if Dat.EqN (Dat.len (mixF l.length l)) (Dat.len M) then some ((Q1,(Q2,(M::([] : List (List MFr))))),(((Dat.xnew (α:=MFr) 0 (Dat.len (mixF l.length l))),(h,())),(0 : Int))) else none) else none)=some (okR h Q1 Q2 M):=by
 have hl : M.length=(mixF l.length l).length:=by rw [hM]; simp
 refine zQa rfl (zQa hl.symm ?_)
 simp only [okR,Dat.len,hl]
theorem yK8 (c : CfgT) (l : List FrT) (h a pg cl : Int) (hs : zWo l) : zJq (c,((l,(h,())),(a,(pg,cl))))=some (vJe c l h a pg cl):=by
 unfold zJq vJe ansR
 dsimp only
 refine zQj (yQ1 hs) ?_
 by_cases hc : chkF c l h=0
 ·rw [if_pos hc]
  refine zQf (by simp [Dat.ine,hc]) ?_
  refine zQj (zJv l h a) ?_
  by_cases hp : plF l a
  ·refine zQf (by simp [Dat.bnot, hp]) ?_
   refine zQj (yZ2 c cl) ?_
   by_cases hcl : clF c cl
   ·refine zQf (by simp [Dat.bnot, Dat.zQd, hcl]) ?_
    by_cases h1 : pg < 0
    ·refine zQe (by simp [Dat.ilt, Dat.zQd, h1]) ?_
     rw [if_neg (show ¬ zXq c l _ pg _ from fun hm=>by have:=hm.2.2.1; omega)]; rfl
    ·refine zQf (by simp [Dat.ilt, Dat.zQd]; omega) ?_
     by_cases h2 : pg ≥ c.1
     ·refine zQe (by simp [Dat.ige, Dat.zQd]; omega) ?_
      rw [if_neg (show ¬ zXq c l _ pg _ from fun hm=>by have:=hm.2.2.1; omega)]; rfl
     ·refine zQf (by simp [Dat.ige, Dat.zQd]; omega) ?_
      obtain ⟨a,rfl⟩ : ∃ n : Nat,a=n:=⟨a.toNat,by have:=hp.1; omega⟩
      have ha : a < l.length:=by have:=hp.2; omega
      have hix : Dat.Ix (a : Int) (Dat.len l):=⟨by omega,by simp only [Dat.len]; omega⟩
      refine zQa hix ?_
      refine zQc (fget l ha) ?_
      refine zQj (find_ok c l h pg hs) ?_
      rw [if_pos hc]
      have hsm:=hs.2 _ (List.getElem_mem ha)
      have hel:=zXo ha
      by_cases h3 : l[a].1=1
      ·refine zQe (by simp [Dat.ieq, h3]) ?_
       rw [if_neg (show ¬ zXq c l _ pg _ from fun hm=>by have:=hm.2.2.2.1; rw [hel] at this; exact this h3)]; rfl
      ·refine zQf (by simp [Dat.ieq, h3]) ?_
       refine zQj (zJf l[a] (by omega)) ?_
       cases h4 : pinB l[a].2.2.2.1 with
       | true =>
        refine zQe rfl ?_
        rw [if_neg (show ¬ zXq c l _ pg _ from fun hm=>by have:=hm.2.2.2.2.1; rw [hel,h4] at this; cases this)]; rfl
       | false =>
        refine zQf rfl ?_
        obtain ⟨cl,rfl⟩ : ∃ n : Nat,cl=n:=⟨cl.toNat,by have:=hcl.1; omega⟩
        obtain ⟨hm,hn,⟨hh0,hh1⟩,hall,hnd⟩:=yQ0 hc
        have hokx:=List.all_eq_true.1 hall _ (List.getElem_mem ha)
        have hcn : (l[a].2.2.2.1.length : Int)=c.2.2.2.2.2.2.1:=by
         unfold okF at hokx
         simp only [Bool.and_eq_true,decide_eq_true_eq] at hokx
         exact hokx.1.1
        have hcl2:=hcl.2
        have hmk : Dat.MkOk c.2.2.2.2.2.2.1 c.2.2.2.2.2.2.1 8:=Dat.xQ2.2 (by omega)
        have hcc : Dat.toN c.2.2.2.2.2.2.1=l[a].2.2.2.1.length:=by simp only [Dat.toN]; omega
        have hM : (atF l pg=none∨atF l pg=some a)→zXq c l a pg cl:=fun ho=>⟨hp,hcl,⟨by omega,by omega⟩,by rw [hel]; exact h3,by rw [hel]; exact h4,by simpa using ho⟩
        cases h5 : atF l pg with
        | none =>
         rw [if_pos (hM (.inl h5))]
         refine zQf rfl ?_
         refine iteN (show ¬ l.length=0 by omega) ?_
         refine zQa (Nat.le_refl _) ?_
         refine iteN (show ¬ l.length=0 by omega) ?_
         refine zXg (xXu hs) ?_
         refine zQc rfl ?_
         refine zQj (zJ4 l (fun x=>rfl)) ?_
         refine zJy l hs _ _ ?_
         dsimp only
         refine end1 hs (by omega) ?_
         refine zQa (yQv (by simp only [Dat.len,zQs]; exact ha)) (zQa (zKl (by simp only [Dat.len,zQs]; exact ha)) ?_)
         refine zQc (yZz ha _) ?_
         refine zQa hmk (zQa (yQv (by rw [hcc]; omega)) (zQa (zKl (by simp only [Dat.len,Dat.rep,List.length_replicate]; rw [hcc]; omega)) ?_))
         refine zQc rfl ?_
         refine zQa rfl (zQa (by simp [Dat.EqN,Dat.len,Dat.rep,Dat.set]) ?_)
         refine zQc rfl ?_
         refine zQa (yQv (by simp only [Dat.len,zQs]; exact ha)) (zQa (zKl (by simp only [Dat.len,zQs]; exact ha)) ?_)
         rw [zYg,zYg]
         refine zQc rfl ?_
         refine (wZr (l:=l) rfl).trans (congrArg some ?_)
         simp [xKl,xKm,yJ3,yJ5,okR,dF,pF,hel,zYf,Dat.rep,Dat.set,Dat.toN,Dat.app]
        | some o =>
         refine zQe rfl ?_
         by_cases ho : o=a
         ·subst ho
          rw [if_pos (hM (.inr h5))]
          refine zQf (by simp [Dat.zQd,Dat.ine]) ?_
          refine iteN (show ¬ l.length=0 by omega) ?_
          refine zQa (Nat.le_refl _) ?_
          refine iteN (show ¬ l.length=0 by omega) ?_
          refine zXg (xXu hs) ?_
          refine zQc rfl ?_
          refine zQj (zJ4 l (fun x=>rfl)) ?_
          refine zJy l hs _ _ ?_
          dsimp only
          refine end1 hs (by omega) ?_
          refine zQa (yQv (by simp only [Dat.len,zQs]; exact ha)) (zQa (zKl (by simp only [Dat.len,zQs]; exact ha)) ?_)
          refine zQc (yZz ha _) ?_
          refine zQa hmk (zQa (yQv (by rw [hcc]; omega)) (zQa (zKl (by simp only [Dat.len,Dat.rep,List.length_replicate]; rw [hcc]; omega)) ?_))
          refine zQc rfl ?_
          refine zQa rfl (zQa (by simp [Dat.EqN,Dat.len,Dat.rep,Dat.set]) ?_)
          refine zQc rfl ?_
          refine zQa (yQv (by simp only [Dat.len,zQs]; exact ha)) (zQa (zKl (by simp only [Dat.len,zQs]; exact ha)) ?_)
          rw [zYg,zYg]
          refine zQc rfl ?_
          refine (wZr (l:=l) rfl).trans (congrArg some ?_)
          simp [xKl,xKm,yJ3,yJ5,okR,dF,pF,hel,zYf,Dat.rep,Dat.set,Dat.toN,Dat.app]
         ·refine zQe (by simp [Dat.zQd, Dat.ine]; omega) ?_
          rw [if_neg (show ¬ zXq c l _ pg _ from fun hm=>by
           have:=hm.2.2.2.2.2
           rw [h5] at this
           rcases this with h | h
           ·cases h
           ·exact ho (by simpa using h))]; rfl
   ·refine zQe (by simp [Dat.bnot, Dat.zQd, hcl]) ?_
    rw [if_neg (show ¬ zXq c l _ pg _ from fun hm=>hcl hm.2.1)]; rfl
  ·refine zQe (by simp [Dat.bnot, hp]) ?_
   rw [if_neg (show ¬ zXq c l _ pg _ from fun hm=>hp hm.1)]; rfl
 ·rw [if_neg hc]
  exact zQe (by simp [Dat.ine,hc]) rfl
theorem yK9 (c : CfgT) (l : List FrT) (h a : Int) (d : List Int) (hs : zWo l) (hd : d.length≤1000) : zJr (c,((l,(h,())),(a,d)))=some (vJo c l h a d):=by
 unfold zJr vJo ansR
 dsimp only
 refine zQj (yQ1 hs) ?_
 by_cases hc : chkF c l h=0
 ·rw [if_pos hc]
  refine zQf (by simp [Dat.ine,hc]) ?_
  refine zQj (zJv l h a) ?_
  by_cases hp : plF l a
  ·obtain ⟨a, rfl⟩ : ∃ n : Nat, a = n := ⟨a.toNat, by have := hp.1; omega⟩
   have ha : a < l.length:=by have:=hp.2; omega
   have hix : Dat.Ix (a : Int) (Dat.len l):=⟨by omega,by simp only [Dat.len]; omega⟩
   have hsm:=hs.2 _ (List.getElem_mem ha)
   have hel:=zXo ha
   rw [hel]
   refine zQf (by simp [Dat.bnot,Dat.zQd,hp]) ?_
   refine zQa hix ?_
   refine zQc (fget l ha) ?_
   by_cases h1 : l[a].1=1
   ·refine zQf (by simp [Dat.zQd, Dat.ine, h1]) ?_
    by_cases h2 : (d.length : Int)=c.2.1
    ·refine zQf (by simp [Dat.zQd, Dat.ine, Dat.ofN, Dat.len, h2]) ?_
     rw [if_pos (show plF l a∧l[a].1=1∧(d.length : Int)=c.2.1 from ⟨hp,h1,h2⟩)]
     refine iteN (show ¬ l.length=0 by omega) ?_
     refine zQa (Nat.le_refl _) ?_
     refine iteN (show ¬ l.length=0 by omega) ?_
     refine zXg (xXu hs) ?_
     refine zQc rfl ?_
     refine zQj (zJ4 l (fun x=>rfl)) ?_
     refine zJy l hs _ _ ?_
     dsimp only
     refine end1 hs (by omega) ?_
     refine zQa (yQv (by simp only [Dat.len,zQs]; exact ha)) (zQa (zKl (by simp only [Dat.len,zQs]; exact ha)) ?_)
     refine zQc (yZz ha _) ?_
     refine zQj (yKa _ hd) ?_
     refine zQc rfl ?_
     refine zQa (yQv (by simp only [Dat.len,zQs]; exact ha)) (zQa (zKl (by simp only [Dat.len,zQs]; exact ha)) ?_)
     rw [zYg]
     refine zQc rfl ?_
     refine (wZr (l:=l) rfl).trans (congrArg some ?_)
     simp [xKl,xKm,yJ3,yJ5,okR,dF,pF,hel,zYf,Dat.rep,Dat.set,Dat.toN,Dat.app]
    ·refine zQe (by simp [Dat.zQd, Dat.ine, Dat.ofN, Dat.len, h2]) ?_
     rw [if_neg (show ¬ (plF l a∧l[a].1=1∧(d.length : Int)=c.2.1) from fun hm=>h2 hm.2.2)]; rfl
   ·refine zQe (by simp [Dat.zQd, Dat.ine, h1]) ?_
    rw [if_neg (show ¬ (plF l a∧l[a].1=1∧(d.length : Int)=c.2.1) from fun hm=>h1 hm.2.1)]; rfl
  ·refine zQe (by simp [Dat.bnot, Dat.zQd, hp]) ?_
   rw [if_neg (fun hm=>hp hm.1)]; rfl
 ·rw [if_neg hc]
  exact zQe (by simp [Dat.ine,hc]) rfl
theorem yZ3 (c : CfgT) (l : List FrT) (h a : Int) (d : List Int) (hs : zWo l) (hd : d.length≤1000) : zK1 (c,((l,(h,())),(a,d)))=some (wKb c l h a d):=by
 unfold zK1 wKb ansR
 dsimp only
 refine zQj (yQ1 hs) ?_
 by_cases hc : chkF c l h=0
 ·rw [if_pos hc]
  refine zQf (by simp [Dat.ine,hc]) ?_
  refine zQj (zJv l h a) ?_
  by_cases hp : plF l a
  ·obtain ⟨a, rfl⟩ : ∃ n : Nat, a = n := ⟨a.toNat, by have := hp.1; omega⟩
   have ha : a < l.length:=by have:=hp.2; omega
   have hix : Dat.Ix (a : Int) (Dat.len l):=⟨by omega,by simp only [Dat.len]; omega⟩
   have hsm:=hs.2 _ (List.getElem_mem ha)
   have hel:=zXo ha
   rw [hel]
   refine zQf (by simp [Dat.bnot,Dat.zQd,hp]) ?_
   refine zQa hix ?_
   refine zQc (fget l ha) ?_
   by_cases h1 : l[a].1=2
   ·refine zQf (by simp [Dat.zQd, Dat.ine, h1]) ?_
    by_cases h2 : (d.length : Int)=c.2.1
    ·refine zQf (by simp [Dat.zQd, Dat.ine, Dat.ofN, Dat.len, h2]) ?_
     rw [if_pos (show plF l a∧l[a].1=2∧(d.length : Int)=c.2.1 from ⟨hp,h1,h2⟩)]
     refine iteN (show ¬ l.length=0 by omega) ?_
     refine zQa (Nat.le_refl _) ?_
     refine iteN (show ¬ l.length=0 by omega) ?_
     refine zXg (xXu hs) ?_
     refine zQc rfl ?_
     refine zQj (zJ4 l (fun x=>rfl)) ?_
     refine zJy l hs _ _ ?_
     dsimp only
     refine end1 hs (by omega) ?_
     refine zQa (yQv (by simp only [Dat.len,zQs]; exact ha)) (zQa (zKl (by simp only [Dat.len,zQs]; exact ha)) ?_)
     refine zQc (yZz ha _) ?_
     refine zQj (yKa _ hd) ?_
     refine zQc rfl ?_
     refine zQa (yQv (by simp only [Dat.len,zQs]; exact ha)) (zQa (zKl (by simp only [Dat.len,zQs]; exact ha)) ?_)
     rw [zYg]
     refine zQc rfl ?_
     refine (wZr (l:=l) rfl).trans (congrArg some ?_)
     simp [xKl,xKm,yJ3,yJ5,okR,dF,pF,hel,zYf,Dat.rep,Dat.set,Dat.toN,Dat.app]
    ·refine zQe (by simp [Dat.zQd, Dat.ine, Dat.ofN, Dat.len, h2]) ?_
     rw [if_neg (show ¬ (plF l a∧l[a].1=2∧(d.length : Int)=c.2.1) from fun hm=>h2 hm.2.2)]; rfl
   ·refine zQe (by simp [Dat.zQd, Dat.ine, h1]) ?_
    rw [if_neg (show ¬ (plF l a∧l[a].1=2∧(d.length : Int)=c.2.1) from fun hm=>h1 hm.2.1)]; rfl
  ·refine zQe (by simp [Dat.bnot, Dat.zQd, hp]) ?_
   rw [if_neg (fun hm=>hp hm.1)]; rfl
 ·rw [if_neg hc]
  exact zQe (by simp [Dat.ine,hc]) rfl
theorem yZ5 (c : CfgT) (l : List FrT) (h a : Int) (hs : zWo l) : zK3 (c,((l,(h,())),a))=some (wJv c l h a):=by
 unfold zK3 wJv ansR
 dsimp only
 refine zQj (yQ1 hs) ?_
 by_cases hc : chkF c l h=0
 ·rw [if_pos hc]
  refine zQf (by simp [Dat.ine,hc]) ?_
  refine zQj (zJv l h a) ?_
  by_cases hp : plF l a
  ·obtain ⟨a, rfl⟩ : ∃ n : Nat, a = n := ⟨a.toNat, by have := hp.1; omega⟩
   have ha : a < l.length:=by have:=hp.2; omega
   have hix : Dat.Ix (a : Int) (Dat.len l):=⟨by omega,by simp only [Dat.len]; omega⟩
   have hsm:=hs.2 _ (List.getElem_mem ha)
   have hel:=zXo ha
   rw [hel]
   refine zQf (by simp [Dat.bnot,Dat.zQd,hp]) ?_
   refine zQa hix ?_
   refine zQc (fget l ha) ?_
   cases h1 : l[a].2.2.2.2.2.1 with
   | true =>
    refine zQf rfl ?_
    rw [if_pos (show plF l a∧true=true from ⟨hp,rfl⟩)]
    refine iteN (show ¬ l.length=0 by omega) ?_
    refine zQa (Nat.le_refl _) ?_
    refine iteN (show ¬ l.length=0 by omega) ?_
    refine zXg (xXu hs) ?_
    refine zQc rfl ?_
    refine zQj (zJ4 l (fun x=>rfl)) ?_
    refine zJy l hs _ _ ?_
    dsimp only
    refine end1 hs (by omega) ?_
    refine zQa (yQv (by simp only [Dat.len,zQs]; exact ha)) (zQa (zKl (by simp only [Dat.len,zQs]; exact ha)) ?_)
    refine zQc (yZz ha _) ?_
    refine zQa (yQv (by simp only [Dat.len,zQs]; exact ha)) (zQa (zKl (by simp only [Dat.len,zQs]; exact ha)) ?_)
    rw [zYg]
    refine zQc rfl ?_
    refine (wZr (l:=l) rfl).trans (congrArg some ?_)
    simp [xKl,xKm,yJ3,yJ5,okR,dF,pF,hel,zYf,Dat.rep,Dat.set,Dat.toN,Dat.app]
   | false =>
    refine zQe rfl ?_
    rw [if_neg (show ¬ (plF l a∧false=true) from fun hm=>by cases hm.2)]; rfl
  ·refine zQe (by simp [Dat.bnot, Dat.zQd, hp]) ?_
   rw [if_neg (fun hm=>hp hm.1)]; rfl
 ·rw [if_neg hc]
  exact zQe (by simp [Dat.ine,hc]) rfl
theorem yYh (c : CfgT) (l : List FrT) (h a cl : Int) (hs : zWo l) : zYp (c,((l,(h,())),(a,cl)))=some (pinR c l h a cl):=by
 unfold zYp pinR ansR
 dsimp only
 refine zQj (yQ1 hs) ?_
 by_cases hc : chkF c l h=0
 ·rw [if_pos hc]
  refine zQf (by simp [Dat.ine,hc]) ?_
  refine zQj (zJv l h a) ?_
  by_cases hp : plF l a
  ·obtain ⟨a, rfl⟩ : ∃ n : Nat, a = n := ⟨a.toNat, by have := hp.1; omega⟩
   have ha : a < l.length:=by have:=hp.2; omega
   have hix : Dat.Ix (a : Int) (Dat.len l):=⟨by omega,by simp only [Dat.len]; omega⟩
   have hsm:=hs.2 _ (List.getElem_mem ha)
   have hel:=zXo ha
   rw [hel]
   refine zQf (by simp [Dat.bnot,Dat.zQd,hp]) ?_
   refine zQj (yZ2 c cl) ?_
   by_cases hcl : clF c cl
   ·refine zQf (by simp [Dat.bnot, Dat.zQd, hcl]) ?_
    refine zQa hix ?_
    refine zQc (fget l ha) ?_
    obtain ⟨hm,hn,⟨hh0,hh1⟩,hall,hnd⟩:=yQ0 hc
    have hokx:=List.all_eq_true.1 hall _ (List.getElem_mem ha)
    have hcn : (l[a].2.2.2.1.length : Int)=c.2.2.2.2.2.2.1∧zK6 l[a].2.2.2.1=true:=by
     unfold okF at hokx
     simp only [Bool.and_eq_true,decide_eq_true_eq] at hokx
     exact ⟨hokx.1.1,hokx.1.2⟩
    obtain ⟨cl,rfl⟩ : ∃ n : Nat,cl=n:=⟨cl.toNat,by have:=hcl.1; omega⟩
    have hclt : cl < l[a].2.2.2.1.length:=by have:=hcl.2; have:=hcn.1; omega
    have hcx : Dat.Ix (cl : Int) (Dat.len l[a].2.2.2.1):=⟨by omega,by simp only [Dat.len]; omega⟩
    have hgd : l[a].2.2.2.1.getD ((cl : Int)).toNat 0=l[a].2.2.2.1[cl]:=by simp [List.getD,hclt]
    have hbd : 0≤l[a].2.2.2.1[cl]∧l[a].2.2.2.1[cl]≤8:=by
     have:=List.all_eq_true.1 hcn.2 _ (List.getElem_mem hclt)
     simpa using this
    rw [hgd]
    by_cases h1 : l[a].1=0
    ·refine zQe (by simp [Dat.ieq, Dat.zQd, h1]) ?_
     rw [if_neg (show ¬ (plF l a∧clF c cl∧l[a].1≠0) from fun hm=>hm.2.2 h1)]; rfl
    ·refine zQf (by simp [Dat.ieq, Dat.zQd, h1]) ?_
     rw [if_pos (show plF l a∧clF c cl∧l[a].1≠0 from ⟨hp,hcl,h1⟩)]
     refine zQa hix ?_
     refine zQc (fget l ha) ?_
     refine zQa hcx ?_
     refine zQc (iget _ hclt) ?_
     by_cases h2 : l[a].2.2.2.1[cl]=8
     ·refine zQe (by simp [Dat.ieq, Dat.zQd, h2]) ?_
      rw [if_pos h2]; rfl
     ·refine zQf (by simp [Dat.ieq, Dat.zQd, h2]) ?_
      rw [if_neg h2]
      refine iteN (show ¬ l.length=0 by omega) ?_
      refine zQa (Nat.le_refl _) ?_
      refine iteN (show ¬ l.length=0 by omega) ?_
      refine zXg (xXu hs) ?_
      refine zQc rfl ?_
      refine zQj (zJ4 l (fun x=>rfl)) ?_
      refine zJy l hs _ _ ?_
      dsimp only
      refine end1 hs (by omega) ?_
      refine zQa (yQv (by simp only [Dat.len,zQs]; exact ha)) (zQa (zKl (by simp only [Dat.len,zQs]; exact ha)) ?_)
      refine zQc (yZz ha _) ?_
      have hpa : 0 < l[a].2.2.2.1.length:=by omega
      have hxr : Dat.xrow a l[a].2.2.2.1=.ref a 0 l[a].2.2.2.1.length l[a].2.2.2.1.length:=if_neg (by omega)
      have hrow : (l.map (fun x : FrT=>x.2.2.2.1)).getD a []=l[a].2.2.2.1:=by simp [List.getD,ha]
      have hpt : Dat.XPt (l.map (fun x : FrT=>x.2.2.2.1)) (zYf a l[a]).2.2.2.1 (Dat.toN (cl : Int)):=by
       show MixE.xpt _ _ (Dat.xrow a l[a].2.2.2.1)=true
       rw [hxr]
       simp only [MixE.xpt,hrow]
       simp [ha,Dat.toN]
       omega
      have hxl : Dat.xlen (zYf a l[a]).2.2.2.1=l[a].2.2.2.1.length:=by
       show Dat.xlen (Dat.xrow a l[a].2.2.2.1)=_
       rw [hxr]
      have hcix : Dat.Ix (cl : Int) (Dat.xlen (zYf a l[a]).2.2.2.1):=⟨by omega,by rw [hxl]; omega⟩
      refine zQa hcix (zQa hpt (zQa hpt ?_))
      have hxat : Dat.xat (l.map (fun x : FrT=>x.2.2.2.1)) (zYf a l[a]).2.2.2.1 (Dat.toN (cl : Int)) 0=l[a].2.2.2.1[cl]:=by
       show Dat.xat _ (Dat.xrow a l[a].2.2.2.1) _ _=_
       rw [hxr]
       simp only [Dat.xat,Dat.xk,Dat.xoff,hrow]
       simp [Dat.toN,List.getD,hclt]
      refine zQc hxat ?_
      refine zQc (zYe (x:=Dat.add l[a].2.2.2.1[cl] 1) (by simp only [Dat.add]; omega)) ?_
      refine zQa hcix (zQa hpt (zQa hpt ?_))
      have hxset : Dat.xset (l.map (fun x : FrT=>x.2.2.2.1)) (zYf a l[a]).2.2.2.1 (Dat.toN (cl : Int)) (Dat.add l[a].2.2.2.1[cl] 1)=(l.map (fun x : FrT=>x.2.2.2.1)).set a (l[a].2.2.2.1.set cl (Dat.add l[a].2.2.2.1[cl] 1)):=by
       show Dat.xset _ (Dat.xrow a l[a].2.2.2.1) _ _=_
       rw [hxr]
       simp only [Dat.xset,Dat.xk,Dat.xoff,hrow]
       simp [Dat.toN]
      refine zQc hxset ?_
      refine zQa (yQv (by simp only [Dat.len,zQs]; exact ha)) (zQa (zKl (by simp only [Dat.len,zQs]; exact ha)) ?_)
      rw [zYg]
      refine zQc rfl ?_
      refine (wZr (l:=l) rfl).trans (congrArg some ?_)
      simp [wYo,okR,dF,pF,hel,zYf,Dat.rep,Dat.set,Dat.toN,Dat.app]
   ·refine zQe (by simp [Dat.bnot, Dat.zQd, hcl]) ?_
    rw [if_neg (show ¬ (plF l a∧clF c cl∧l[a].1≠0) from fun hm=>hcl hm.2.1)]; rfl
  ·refine zQe (by simp [Dat.bnot, Dat.zQd, hp]) ?_
   rw [if_neg (fun hm=>hp hm.1)]; rfl
 ·rw [if_neg hc]
  exact zQe (by simp [Dat.ine,hc]) rfl
theorem yZ4 (c : CfgT) (l : List FrT) (h a cl : Int) (hs : zWo l) : zK2 (c,((l,(h,())),(a,cl)))=some (wKj c l h a cl):=by
 unfold zK2 wKj ansR
 dsimp only
 refine zQj (yQ1 hs) ?_
 by_cases hc : chkF c l h=0
 ·rw [if_pos hc]
  refine zQf (by simp [Dat.ine,hc]) ?_
  refine zQj (zJv l h a) ?_
  by_cases hp : plF l a
  ·obtain ⟨a, rfl⟩ : ∃ n : Nat, a = n := ⟨a.toNat, by have := hp.1; omega⟩
   have ha : a < l.length:=by have:=hp.2; omega
   have hix : Dat.Ix (a : Int) (Dat.len l):=⟨by omega,by simp only [Dat.len]; omega⟩
   have hsm:=hs.2 _ (List.getElem_mem ha)
   have hel:=zXo ha
   rw [hel]
   refine zQf (by simp [Dat.bnot,Dat.zQd,hp]) ?_
   refine zQj (yZ2 c cl) ?_
   by_cases hcl : clF c cl
   ·refine zQf (by simp [Dat.bnot, Dat.zQd, hcl]) ?_
    refine zQa hix ?_
    refine zQc (fget l ha) ?_
    obtain ⟨hm,hn,⟨hh0,hh1⟩,hall,hnd⟩:=yQ0 hc
    have hokx:=List.all_eq_true.1 hall _ (List.getElem_mem ha)
    have hcn : (l[a].2.2.2.1.length : Int)=c.2.2.2.2.2.2.1∧zK6 l[a].2.2.2.1=true:=by
     unfold okF at hokx
     simp only [Bool.and_eq_true,decide_eq_true_eq] at hokx
     exact ⟨hokx.1.1,hokx.1.2⟩
    obtain ⟨cl,rfl⟩ : ∃ n : Nat,cl=n:=⟨cl.toNat,by have:=hcl.1; omega⟩
    have hclt : cl < l[a].2.2.2.1.length:=by have:=hcl.2; have:=hcn.1; omega
    have hcx : Dat.Ix (cl : Int) (Dat.len l[a].2.2.2.1):=⟨by omega,by simp only [Dat.len]; omega⟩
    have hgd : l[a].2.2.2.1.getD ((cl : Int)).toNat 0=l[a].2.2.2.1[cl]:=by simp [List.getD,hclt]
    have hbd : 0≤l[a].2.2.2.1[cl]∧l[a].2.2.2.1[cl]≤8:=by
     have:=List.all_eq_true.1 hcn.2 _ (List.getElem_mem hclt)
     simpa using this
    rw [hgd]
    rw [if_pos (show plF l a∧clF c cl from ⟨hp,hcl⟩)]
    by_cases h1 : l[a].1=2
    ·refine zQf (by simp [Dat.ine, Dat.zQd, h1]) ?_
     refine zQa hix ?_
     refine zQc (fget l ha) ?_
     refine zQa hcx ?_
     refine zQc (iget _ hclt) ?_
     by_cases h2 : l[a].2.2.2.1[cl]=0
     ·refine zQe (by simp [Dat.ieq, Dat.zQd, h2]) ?_
      rw [if_pos (show l[a].1≠2∨l[a].2.2.2.1[cl]=0 from .inr h2)]; rfl
     ·refine zQf (by simp [Dat.ieq, Dat.zQd, h2]) ?_
      rw [if_neg (show ¬ (l[a].1≠2∨l[a].2.2.2.1[cl]=0) from fun hx=>hx.elim (fun k=>k h1) h2)]
      refine iteN (show ¬ l.length=0 by omega) ?_
      refine zQa (Nat.le_refl _) ?_
      refine iteN (show ¬ l.length=0 by omega) ?_
      refine zXg (xXu hs) ?_
      refine zQc rfl ?_
      refine zQj (zJ4 l (fun x=>rfl)) ?_
      refine zJy l hs _ _ ?_
      dsimp only
      refine end1 hs (by omega) ?_
      refine zQa (yQv (by simp only [Dat.len,zQs]; exact ha)) (zQa (zKl (by simp only [Dat.len,zQs]; exact ha)) ?_)
      refine zQc (yZz ha _) ?_
      have hpa : 0 < l[a].2.2.2.1.length:=by omega
      have hxr : Dat.xrow a l[a].2.2.2.1=.ref a 0 l[a].2.2.2.1.length l[a].2.2.2.1.length:=if_neg (by omega)
      have hrow : (l.map (fun x : FrT=>x.2.2.2.1)).getD a []=l[a].2.2.2.1:=by simp [List.getD,ha]
      have hpt : Dat.XPt (l.map (fun x : FrT=>x.2.2.2.1)) (zYf a l[a]).2.2.2.1 (Dat.toN (cl : Int)):=by
       show MixE.xpt _ _ (Dat.xrow a l[a].2.2.2.1)=true
       rw [hxr]
       simp only [MixE.xpt,hrow]
       simp [ha,Dat.toN]
       omega
      have hxl : Dat.xlen (zYf a l[a]).2.2.2.1=l[a].2.2.2.1.length:=by
       show Dat.xlen (Dat.xrow a l[a].2.2.2.1)=_
       rw [hxr]
      have hcix : Dat.Ix (cl : Int) (Dat.xlen (zYf a l[a]).2.2.2.1):=⟨by omega,by rw [hxl]; omega⟩
      refine zQa hcix (zQa hpt (zQa hpt ?_))
      have hxat : Dat.xat (l.map (fun x : FrT=>x.2.2.2.1)) (zYf a l[a]).2.2.2.1 (Dat.toN (cl : Int)) 0=l[a].2.2.2.1[cl]:=by
       show Dat.xat _ (Dat.xrow a l[a].2.2.2.1) _ _=_
       rw [hxr]
       simp only [Dat.xat,Dat.xk,Dat.xoff,hrow]
       simp [Dat.toN,List.getD,hclt]
      refine zQc hxat ?_
      refine zQc (zYe (x:=Dat.sub l[a].2.2.2.1[cl] 1) (by simp only [Dat.sub]; omega)) ?_
      refine zQa hcix (zQa hpt (zQa hpt ?_))
      have hxset : Dat.xset (l.map (fun x : FrT=>x.2.2.2.1)) (zYf a l[a]).2.2.2.1 (Dat.toN (cl : Int)) (Dat.sub l[a].2.2.2.1[cl] 1)=(l.map (fun x : FrT=>x.2.2.2.1)).set a (l[a].2.2.2.1.set cl (Dat.sub l[a].2.2.2.1[cl] 1)):=by
       show Dat.xset _ (Dat.xrow a l[a].2.2.2.1) _ _=_
       rw [hxr]
       simp only [Dat.xset,Dat.xk,Dat.xoff,hrow]
       simp [Dat.toN]
      refine zQc hxset ?_
      refine zQa (yQv (by simp only [Dat.len,zQs]; exact ha)) (zQa (zKl (by simp only [Dat.len,zQs]; exact ha)) ?_)
      rw [zYg]
      refine zQc rfl ?_
      refine (wZr (l:=l) rfl).trans (congrArg some ?_)
      simp [wYo,okR,dF,pF,hel,zYf,Dat.rep,Dat.set,Dat.toN,Dat.app]
    ·refine zQe (by simp [Dat.ine, Dat.zQd, h1]) ?_
     rw [if_pos (show l[a].1≠2∨l[a].2.2.2.1[cl]=0 from .inl h1)]; rfl
   ·refine zQe (by simp [Dat.bnot, Dat.zQd, hcl]) ?_
    rw [if_neg (show ¬ (plF l a∧clF c cl) from fun hm=>hcl hm.2)]; rfl
  ·refine zQe (by simp [Dat.bnot, Dat.zQd, hp]) ?_
   rw [if_neg (fun hm=>hp hm.1)]; rfl
 ·rw [if_neg hc]
  exact zQe (by simp [Dat.ine,hc]) rfl
end Go.Proofs.Ytablhcjjfiepaaa
