/- Frames: what each call turns. -/
import Derived.Test.YtablhcjjfiepaaaFrmix
namespace Go.Proofs.Ytablhcjjfiepaaa
open Go.Eng
set_option linter.unusedVariables false
set_option linter.unusedSimpArgs false
abbrev AnsF:=(List FrT×(Int×Unit))×Int
def badF (e : Int) : AnsF:=(([],(0,())),e)
noncomputable def ansF (c : CfgT) (l : List FrT) (h : Int) (b : AnsF) : AnsF:=if chkF c l h=0 then b else badF (chkF c l h)
def z0F : FrT:=(0,(0,([],([],(false,(false,()))))))
def atF (l : List FrT) (pg : Int) : Option Nat:=l.findIdx? fun x=>decide (x.1≠0∧x.2.1=pg)
def setF (l : List FrT) (h a : Int) (y : FrT) : AnsF:=((l.set a.toNat y,(h,())),0)
def plF (l : List FrT) (a : Int) : Prop:=0≤a∧a < l.length
instance (l : List FrT) (a : Int) : Decidable (plF l a):=inferInstanceAs (Decidable (_∧_))
def clF (c : CfgT) (a : Int) : Prop:=0≤a∧a < c.2.2.2.2.2.2.1
instance (c : CfgT) (a : Int) : Decidable (clF c a):=inferInstanceAs (Decidable (_∧_))
def elF (l : List FrT) (a : Int) : FrT:=l.getD a.toNat z0F
def loadedF (c : CfgT) (pg cl : Int) : FrT:=(1,(pg,([],((List.replicate c.2.2.2.2.2.2.1.toNat 0).set cl.toNat 1,(true,(false,()))))))
def mayLoad (c : CfgT) (l : List FrT) (a pg cl : Int) : Prop:=plF l a∧clF c cl∧(0≤pg∧pg < c.1)∧(elF l a).1≠1∧pinB (elF l a).2.2.2.1=false∧(atF l pg=none∨atF l pg=some a.toNat)
instance (c : CfgT) (l : List FrT) (a pg cl : Int) : Decidable (mayLoad c l a pg cl):=inferInstanceAs (Decidable (_∧_∧_∧_∧_∧_))
noncomputable def loadA (c : CfgT) (l : List FrT) (h a pg cl : Int) : AnsF:=ansF c l h (if mayLoad c l a pg cl then setF l h a (loadedF c pg cl) else badF 2)
def fillF (x : FrT) (d : List Int) : FrT:=(2,(x.2.1,(d,(x.2.2.2.1,(x.2.2.2.2.1,(x.2.2.2.2.2.1,()))))))
noncomputable def fillA (c : CfgT) (l : List FrT) (h a : Int) (d : List Int) : AnsF:=ansF c l h (if plF l a∧(elF l a).1=1∧(d.length : Int)=c.2.1 then setF l h a (fillF (elF l a) d) else badF 2)
def writeF (x : FrT) (d : List Int) : FrT:=(x.1,(x.2.1,(d,(x.2.2.2.1,(true,(true,()))))))
noncomputable def writeA (c : CfgT) (l : List FrT) (h a : Int) (d : List Int) : AnsF:=ansF c l h (if plF l a∧(elF l a).1=2∧(d.length : Int)=c.2.1 then setF l h a (writeF (elF l a) d) else badF 2)
def cleanF (x : FrT) : FrT:=(x.1,(x.2.1,(x.2.2.1,(x.2.2.2.1,(x.2.2.2.2.1,(false,()))))))
noncomputable def cleanA (c : CfgT) (l : List FrT) (h a : Int) : AnsF:=ansF c l h (if plF l a∧(elF l a).2.2.2.2.2.1=true then setF l h a (cleanF (elF l a)) else badF 2)
def pinnF (x : FrT) (cl n : Int) (r : Bool) : FrT:=(x.1,(x.2.1,(x.2.2.1,(x.2.2.2.1.set cl.toNat n,(r,(x.2.2.2.2.2.1,()))))))
noncomputable def pinA (c : CfgT) (l : List FrT) (h a cl : Int) : AnsF := ansF c l h
 (if plF l a∧clF c cl∧(elF l a).1≠0 then (if (elF l a).2.2.2.1.getD cl.toNat 0=8 then badF 260 else setF l h a (pinnF (elF l a) cl ((elF l a).2.2.2.1.getD cl.toNat 0+1) true)) else badF 2)
noncomputable def unpinA (c : CfgT) (l : List FrT) (h a cl : Int) : AnsF := ansF c l h
 (if plF l a∧clF c cl then (if (elF l a).1≠2∨(elF l a).2.2.2.1.getD cl.toNat 0=0 then badF 260 else setF l h a (pinnF (elF l a) cl ((elF l a).2.2.2.1.getD cl.toNat 0 - 1) (elF l a).2.2.2.2.1)) else badF 2)
theorem elF_nat {l : List FrT} {a : Nat} (h : a < l.length) : elF l a=l[a]:=by simp [elF,List.getD,h]
theorem check_ok {c : CfgT} {l : List FrT} {h : Int} (hs : smallF l) : frames_Check (c, l, h, ()) = some (chkF c l h) :=
 frames_Check_spec c l h (by have:=hs.1; omega) (fun x hx=>by have:=hs.2 x hx; omega)
theorem isClient_ok (c : CfgT) (a : Int) : frames_isClient (c, a) = some (decide (clF c a)) := by
 unfold frames_isClient clF
 by_cases h0 : a ≥ 0
 ·refine cond_t (decide_eq_true h0) ?_
  simp only [Dat.pickB,Dat.ilt]
  congr 1
  by_cases h1 : a < c.2.2.2.2.2.2.1<;>simp [h1]; omega
 ·refine cond_f (decide_eq_false h0) ?_
  congr 1
  exact (decide_eq_false (by omega)).symm
theorem isPlace_ok (l : List FrT) (h a : Int) : frames_isPlace ((l,h,()),a)=some (decide (plF l a)):=frames_isPlace_spec l h a
theorem segall {α : Type} {M : List α} {n : Nat} (h : M.length=n) : Dat.seg M 0 n=M:=by subst h; simp [Dat.seg]
theorem find_ok (c : CfgT) (l : List FrT) (h pg : Int) (hs : smallF l) :
  frames_Find (c,(l,h,()),pg)=some (if chkF c l h=0 then (match atF l pg with | some i=>((i : Int),true) | none=>(0,false)) else (0,false)):=by
 unfold frames_Find
 dsimp only
 refine bind_to (check_ok hs) ?_
 by_cases hc : chkF c l h=0
 ·rw [if_pos hc]
  refine cond_f (by simp [Dat.ine,hc]) ?_
  refine loop_inv (fun (s : Int)=>∃ i : Nat,s=i∧i≤l.length∧∀ j (hj : j < l.length),j < i→¬ (l[j].1≠0∧l[j].2.1=pg)) (fun s=>l.length - s.toNat) ?_ ⟨0,rfl,Nat.zero_le _,fun _ _ h=>absurd h (Nat.not_lt_zero _)⟩ (mu_lt _ _ (by have:=hs.1; omega))
  rintro s k ⟨i,rfl,hi,hno⟩ hk
  by_cases hlt : i < l.length
  ·refine cond_t (decide_eq_true (by simp only [Dat.ofN, Dat.len]; omega)) ?_
   refine ite_some (show Dat.Ix (i : Int) (Dat.len l) from ⟨by omega,by simp only [Dat.len]; omega⟩) ?_
   refine bnd_to (fget l hlt) ?_
   have go : ¬ (l[i].1 ≠ 0 ∧ l[i].2.1 = pg) → k ((i : Int) + 1) = some (match atF l pg with | some i => ((i : Int), true) | none => (0, false)) := fun hn =>
    hk _ ⟨i + 1, rfl, hlt, fun j hj hji => by
     by_cases e : j=i
     ·subst e; exact hn
     ·exact hno j hj (by omega)⟩ (by omega)
   by_cases h0 : l[i].1=0
   ·refine cond_f (by simp [Dat.ine, h0]) ?_
    refine bnd_to (wrapI (x:=Dat.add (i : Int) 1) (by simp only [Dat.add]; have:=hs.1; omega)) ?_
    exact go (fun hx=>hx.1 h0)
   ·refine cond_t (by simp [Dat.ine, h0]) ?_
    by_cases hp : l[i].2.1=pg
    ·refine cond_t (by simp [Dat.pickB, Dat.ieq, hp]) ?_
     have : atF l pg = some i := by
      unfold atF
      rw [List.findIdx?_eq_some_iff_getElem]
      exact ⟨hlt,decide_eq_true ⟨h0,hp⟩,fun j hj=>by simp only [decide_eq_true_eq]; exact hno j (by omega) hj⟩
     rw [this]
     show some (Dat.imax true (i : Int) 0,Dat.ige (i : Int) 0)=some ((i : Int),true)
     have e1 : Dat.imax true (i : Int) 0 = i := by
      simp only [Dat.imax,if_true]
      rw [if_neg (by omega)]
     have e2 : Dat.ige (i : Int) 0=true:=decide_eq_true (by omega)
     rw [e1,e2]
    ·refine cond_f (by simp [Dat.pickB, Dat.ieq, hp]) ?_
     refine bnd_to (wrapI (x:=Dat.add (i : Int) 1) (by simp only [Dat.add]; have:=hs.1; omega)) ?_
     exact go (fun hx=>hp hx.2)
  ·refine cond_f (decide_eq_false (by simp only [Dat.ofN, Dat.len]; omega)) ?_
   have : atF l pg = none := by
    unfold atF
    rw [List.findIdx?_eq_none_iff]
    intro x hx
    obtain ⟨j,hj,rfl⟩:=List.getElem_of_mem hx
    exact decide_eq_false (hno j hj (by omega))
   rw [this]
   rfl
 ·rw [if_neg hc]
  exact cond_t (by simp [Dat.ine,hc]) rfl
theorem view_el {Q1 Q2 : List (List Int)} {f : MFr → Option FrT} (hf : ∀ e, Dat.XOk Q1 e.2.2.1 → Dat.XOk Q2 e.2.2.2.1 → f e = some (e.1, (e.2.1, ((Dat.xget Q1 e.2.2.1), ((Dat.xget Q2 e.2.2.2.1), (e.2.2.2.2.1, (e.2.2.2.2.2.1, e.2.2.2.2.2.2)))))))
  {k p : Int} {d1 d2 : MixE Int} {x1 x2 : List Int} {r q : Bool} (h1 : Dat.XOk Q1 d1∧Dat.xget Q1 d1=x1) (h2 : Dat.XOk Q2 d2∧Dat.xget Q2 d2=x2) : f (k,(p,(d1,(d2,(r,(q,()))))))=some (k,(p,(x1,(x2,(r,(q,())))))):=by
 rw [hf _ h1.1 h2.1]
 show some (k,(p,(Dat.xget Q1 d1,(Dat.xget Q2 d2,(r,(q,()))))))=_
 rw [h1.2,h2.2]
theorem row1 (l : List FrT) {j : Nat} (h : j < l.length) (t : List (List Int)) : (l.map (fun x : FrT => x.2.2.1) ++ t)[j]? = some l[j].2.2.1 := by
 rw [List.getElem?_append_left (by simpa using h)]; simp [h]
theorem row1n (l : List FrT) {j : Nat} (h : j < l.length) : (l.map (fun x : FrT=>x.2.2.1))[j]?=some l[j].2.2.1:=by simp [h]
theorem row2n (l : List FrT) {j : Nat} (h : j < l.length) : (l.map (fun x : FrT=>x.2.2.2.1))[j]?=some l[j].2.2.2.1:=by simp [h]
theorem end1 {β : Type} {l : List FrT} (hs : smallF l) (h0 : 0 < l.length) {A : Option β} {K : List MFr → Option β} {r : β} (hk : K (mixF l.length l) = some r) :
  (if Dat.Le (Dat.addN 0 (Dat.len l)) (Dat.len (mixF l.length l)) then (if Dat.Le (Dat.addN 0 0) (Dat.len ([] : List FrT)) then (if Dat.EqN (Dat.len (Dat.seg (mixF l.length l) 0 (Dat.len l))) 0 then A
   else if Dat.Big (Dat.len ([] : List MFr)) (Dat.len (Dat.seg (mixF l.length l) 0 (Dat.len l))) 72 then none else Dat.bnd (Dat.app ([] : List MFr) (Dat.seg (mixF l.length l) 0 (Dat.len l))) K) else none) else none)=some r:=by
 have hsg : Dat.seg (mixF l.length l) 0 (Dat.len l)=mixF l.length l:=segall (mixF_len _ _)
 rw [hsg]
 refine ite_some (by simp [Dat.Le,Dat.addN,Dat.len,mixF_len]) (ite_some (Nat.le_refl _) (iteN (by simp only [Dat.EqN,Dat.len,mixF_len]; omega) (ite_none (big20 (by simp [Dat.len]) (by simp only [Dat.len,mixF_len]; have:=hs.1; omega) (by omega)) ?_)))
 exact bnd_to (List.nil_append _) hk
theorem clone0 {l : List FrT} (hs : smallF l) : ¬ Dat.Big (Dat.len (Dat.seg ([] : List FrT) 0 0)) (Dat.len l) 72:=big20 (by simp [Dat.len,Dat.seg]) (by simp only [Dat.len]; have:=hs.1; omega) (by omega)
theorem in_of {a n : Nat} (h : a < n) : Dat.In (a : Int) n:=⟨by omega,by omega⟩
theorem ltN_of {a n : Nat} (h : a < n) : Dat.Lt (Dat.addN 0 (Dat.toN (a : Int))) n:=by simp only [Dat.Lt,Dat.addN,Dat.toN]; omega
theorem toN_of (a : Nat) : Dat.addN 0 (Dat.toN (a : Int))=a:=by simp [Dat.addN,Dat.toN]
theorem mixF_at {l : List FrT} {a : Nat} (h : a < l.length) (z : MFr) : Dat.get (mixF l.length l) (Dat.addN 0 (Dat.toN (a : Int))) z = mrowF a l[a] := by
 rw [mget0 _ (by rw [mixF_len]; exact h),mixF_get,if_pos h]
theorem end2 {l : List FrT} {h : Int} {a : Nat} {e : MFr} {y : FrT} {f : MFr → Option FrT} {M : List MFr} (hM : M = (mixF l.length l).set a e) (hv : Dat.mapO f ((mixF l.length l).set a e) = some (l.set a y)) {r : AnsF} (hr : r = setF l h a y) :
  (if Dat.Le (Dat.addN 0 (Dat.len (mixF l.length l))) (Dat.len M) then Dat.bind (Dat.mapO f (Dat.seg M 0 (Dat.len (mixF l.length l)))) fun x=>some ((x,(h,())),(0 : Int)) else none)=some r:=by
 subst hM hr
 refine ite_some (by simp [Dat.Le,Dat.addN,Dat.len]) ?_
 rw [segall (by simp [Dat.len])]
 refine bind_to hv ?_
 simp [setF]
theorem frames_Load_spec (c : CfgT) (l : List FrT) (h a pg cl : Int) (hs : smallF l) : frames_Load (c, ((l, (h, ())), (a, (pg, cl)))) = some (loadA c l h a pg cl) := by
 unfold frames_Load loadA ansF
 dsimp only
 refine bind_to (check_ok hs) ?_
 by_cases hc : chkF c l h=0
 ·rw [if_pos hc]
  refine cond_f (by simp [Dat.ine,hc]) ?_
  refine bind_to (isPlace_ok l h a) ?_
  by_cases hp : plF l a
  ·refine cond_f (by simp [Dat.bnot, hp]) ?_
   refine bind_to (isClient_ok c cl) ?_
   by_cases hcl : clF c cl
   ·refine cond_f (by simp [Dat.bnot, Dat.pickB, hcl]) ?_
    by_cases h1 : pg < 0
    ·refine cond_t (by simp [Dat.ilt, Dat.pickB, h1]) ?_
     rw [if_neg (show ¬ mayLoad c l _ pg _ from fun hm=>by have:=hm.2.2.1; omega)]; rfl
    ·refine cond_f (by simp [Dat.ilt, Dat.pickB]; omega) ?_
     by_cases h2 : pg ≥ c.1
     ·refine cond_t (by simp [Dat.ige, Dat.pickB]; omega) ?_
      rw [if_neg (show ¬ mayLoad c l _ pg _ from fun hm=>by have:=hm.2.2.1; omega)]; rfl
     ·refine cond_f (by simp [Dat.ige, Dat.pickB]; omega) ?_
      obtain ⟨a,rfl⟩ : ∃ n : Nat,a=n:=⟨a.toNat,by have:=hp.1; omega⟩
      have ha : a < l.length:=by have:=hp.2; omega
      have hix : Dat.Ix (a : Int) (Dat.len l):=⟨by omega,by simp only [Dat.len]; omega⟩
      refine ite_some hix ?_
      refine bnd_to (fget l ha) ?_
      refine bind_to (find_ok c l h pg hs) ?_
      rw [if_pos hc]
      have hsm:=hs.2 _ (List.getElem_mem ha)
      have hel:=elF_nat ha
      by_cases h3 : l[a].1=1
      ·refine cond_t (by simp [Dat.ieq, h3]) ?_
       rw [if_neg (show ¬ mayLoad c l _ pg _ from fun hm=>by have:=hm.2.2.2.1; rw [hel] at this; exact this h3)]; rfl
      ·refine cond_f (by simp [Dat.ieq, h3]) ?_
       refine bind_to (frames_isPinned_spec l[a] (by omega)) ?_
       cases h4 : pinB l[a].2.2.2.1 with
       | true =>
        refine cond_t rfl ?_
        rw [if_neg (show ¬ mayLoad c l _ pg _ from fun hm=>by have:=hm.2.2.2.2.1; rw [hel,h4] at this; cases this)]; rfl
       | false =>
        refine cond_f rfl ?_
        obtain ⟨cl,rfl⟩ : ∃ n : Nat,cl=n:=⟨cl.toNat,by have:=hcl.1; omega⟩
        obtain ⟨hm,hn,⟨hh0,hh1⟩,hall,hnd⟩:=chkF_ok hc
        have hokx:=List.all_eq_true.1 hall _ (List.getElem_mem ha)
        have hcn : (l[a].2.2.2.1.length : Int) = c.2.2.2.2.2.2.1 := by
         unfold okF at hokx
         simp only [Bool.and_eq_true,decide_eq_true_eq] at hokx
         exact hokx.1.1
        have hcl2:=hcl.2
        have hmk : Dat.MkOk c.2.2.2.2.2.2.1 c.2.2.2.2.2.2.1 8:=Dat.MkOk_iff.2 (by omega)
        have hcc : Dat.toN c.2.2.2.2.2.2.1=l[a].2.2.2.1.length:=by simp only [Dat.toN]; omega
        have hM : (atF l pg=none∨atF l pg=some a)→mayLoad c l a pg cl:=fun ho=>⟨hp,hcl,⟨by omega,by omega⟩,by rw [hel]; exact h3,by rw [hel]; exact h4,by simpa using ho⟩
        cases h5 : atF l pg with
        | none =>
         rw [if_pos (hM (.inl h5))]
         refine cond_f rfl ?_
         refine iteN (show ¬ l.length=0 by omega) ?_
         refine ite_some (Nat.le_refl _) ?_
         refine iteN (show ¬ l.length=0 by omega) ?_
         refine ite_none (clone0 hs) ?_
         refine bnd_to rfl ?_
         refine bind_to (mixF_zero l (fun x=>rfl)) ?_
         refine twin_loop l hs _ _ ?_
         dsimp only
         refine end1 hs (by omega) ?_
         refine ite_some (in_of (by simp only [Dat.len,mixF_len]; exact ha)) (ite_some (ltN_of (by simp only [Dat.len,mixF_len]; exact ha)) ?_)
         refine bnd_to (mixF_at ha _) ?_
         refine ite_some hmk (ite_some (in_of (by rw [hcc]; omega)) (ite_some (ltN_of (by simp only [Dat.len,Dat.rep,List.length_replicate]; rw [hcc]; omega)) ?_))
         refine bnd_to rfl ?_
         refine ite_some (by simp [Dat.Le,Dat.addN,Dat.len]) ?_
         refine ite_some (in_of (by simp only [Dat.len,mixF_len]; exact ha)) (ite_some (ltN_of (by simp only [Dat.len,mixF_len]; exact ha)) ?_)
         rw [toN_of,toN_of]
         refine bnd_to rfl ?_
         refine end2 (l:=l) rfl (view_set (l:=l) (Q1:=l.map (fun x=>x.2.2.1)) (Q2:=l.map (fun x=>x.2.2.2.1)) (y:=loadedF c pg cl) (fun e h1 h2=>ite_some h1 (bnd_to rfl (ite_some h2 (bnd_to rfl rfl)))) (fun j hj _=>row1n l hj) (fun j hj _=>row2n l hj) ?_) rfl
         ·refine view_el (fun e h1 h2 => ite_some h1 (bnd_to rfl (ite_some h2 (bnd_to rfl rfl)))) (xnil_ok _) ⟨rfl, ?_⟩
          show Dat.seg _ 0 _=_
          rw [segall (by simp [Dat.len,Dat.rep,Dat.set])]
          simp [Dat.set,Dat.rep,Dat.toN]
        | some o =>
         refine cond_t rfl ?_
         by_cases ho : o=a
         ·subst ho
          rw [if_pos (hM (.inr h5))]
          refine cond_f (by simp [Dat.pickB,Dat.ine]) ?_
          refine iteN (show ¬ l.length=0 by omega) ?_
          refine ite_some (Nat.le_refl _) ?_
          refine iteN (show ¬ l.length=0 by omega) ?_
          refine ite_none (clone0 hs) ?_
          refine bnd_to rfl ?_
          refine bind_to (mixF_zero l (fun x=>rfl)) ?_
          refine twin_loop l hs _ _ ?_
          dsimp only
          refine end1 hs (by omega) ?_
          refine ite_some (in_of (by simp only [Dat.len,mixF_len]; exact ha)) (ite_some (ltN_of (by simp only [Dat.len,mixF_len]; exact ha)) ?_)
          refine bnd_to (mixF_at ha _) ?_
          refine ite_some hmk (ite_some (in_of (by rw [hcc]; omega)) (ite_some (ltN_of (by simp only [Dat.len,Dat.rep,List.length_replicate]; rw [hcc]; omega)) ?_))
          refine bnd_to rfl ?_
          refine ite_some (by simp [Dat.Le,Dat.addN,Dat.len]) ?_
          refine ite_some (in_of (by simp only [Dat.len,mixF_len]; exact ha)) (ite_some (ltN_of (by simp only [Dat.len,mixF_len]; exact ha)) ?_)
          rw [toN_of,toN_of]
          refine bnd_to rfl ?_
          refine end2 (l:=l) rfl (view_set (l:=l) (Q1:=l.map (fun x=>x.2.2.1)) (Q2:=l.map (fun x=>x.2.2.2.1)) (y:=loadedF c pg cl) (fun e h1 h2=>ite_some h1 (bnd_to rfl (ite_some h2 (bnd_to rfl rfl)))) (fun j hj _=>row1n l hj) (fun j hj _=>row2n l hj) ?_) rfl
          ·refine view_el (fun e h1 h2 => ite_some h1 (bnd_to rfl (ite_some h2 (bnd_to rfl rfl)))) (xnil_ok _) ⟨rfl, ?_⟩
           show Dat.seg _ 0 _=_
           rw [segall (by simp [Dat.len,Dat.rep,Dat.set])]
           simp [Dat.set,Dat.rep,Dat.toN]
         ·refine cond_t (by simp [Dat.pickB, Dat.ine]; omega) ?_
          rw [if_neg (show ¬ mayLoad c l _ pg _ from fun hm => by
           have:=hm.2.2.2.2.2
           rw [h5] at this
           rcases this with h | h
           ·cases h
           ·exact ho (by simpa using h))]; rfl
   ·refine cond_t (by simp [Dat.bnot, Dat.pickB, hcl]) ?_
    rw [if_neg (show ¬ mayLoad c l _ pg _ from fun hm=>hcl hm.2.1)]; rfl
  ·refine cond_t (by simp [Dat.bnot, hp]) ?_
   rw [if_neg (show ¬ mayLoad c l _ pg _ from fun hm=>hp hm.1)]; rfl
 ·rw [if_neg hc]
  exact cond_t (by simp [Dat.ine,hc]) rfl
theorem frames_Fill_spec (c : CfgT) (l : List FrT) (h a : Int) (d : List Int) (hs : smallF l) (hd : d.length ≤ 1000) : frames_Fill (c, ((l, (h, ())), (a, d))) = some (fillA c l h a d) := by
 unfold frames_Fill fillA ansF
 dsimp only
 refine bind_to (check_ok hs) ?_
 by_cases hc : chkF c l h=0
 ·rw [if_pos hc]
  refine cond_f (by simp [Dat.ine,hc]) ?_
  refine bind_to (isPlace_ok l h a) ?_
  by_cases hp : plF l a
  ·obtain ⟨a, rfl⟩ : ∃ n : Nat, a = n := ⟨a.toNat, by have := hp.1; omega⟩
   have ha : a < l.length:=by have:=hp.2; omega
   have hix : Dat.Ix (a : Int) (Dat.len l):=⟨by omega,by simp only [Dat.len]; omega⟩
   have hsm:=hs.2 _ (List.getElem_mem ha)
   have hel:=elF_nat ha
   rw [hel]
   refine cond_f (by simp [Dat.bnot,Dat.pickB,hp]) ?_
   refine ite_some hix ?_
   refine bnd_to (fget l ha) ?_
   by_cases h1 : l[a].1=1
   ·refine cond_f (by simp [Dat.pickB, Dat.ine, h1]) ?_
    by_cases h2 : (d.length : Int)=c.2.1
    ·refine cond_f (by simp [Dat.pickB, Dat.ine, Dat.ofN, Dat.len, h2]) ?_
     rw [if_pos (show plF l a∧l[a].1=1∧(d.length : Int)=c.2.1 from ⟨hp,h1,h2⟩)]
     refine iteN (show ¬ l.length=0 by omega) ?_
     refine ite_some (Nat.le_refl _) ?_
     refine iteN (show ¬ l.length=0 by omega) ?_
     refine ite_none (clone0 hs) ?_
     refine bnd_to rfl ?_
     refine bind_to (mixF_zero l (fun x=>rfl)) ?_
     refine twin_loop l hs _ _ ?_
     dsimp only
     refine end1 hs (by omega) ?_
     refine ite_some (in_of (by simp only [Dat.len,mixF_len]; exact ha)) (ite_some (ltN_of (by simp only [Dat.len,mixF_len]; exact ha)) ?_)
     refine bnd_to (mixF_at ha _) ?_
     refine bind_to (cloneB_spec _ hd) ?_
     refine bnd_to rfl ?_
     refine ite_some (in_of (by simp only [Dat.len,mixF_len]; exact ha)) (ite_some (ltN_of (by simp only [Dat.len,mixF_len]; exact ha)) ?_)
     rw [toN_of]
     refine bnd_to rfl ?_
     refine end2 (l:=l) rfl (view_set (l:=l) (Q1:=l.map (fun x=>x.2.2.1)++[d]) (Q2:=l.map (fun x=>x.2.2.2.1)) (y:=fillF l[a] d) (fun e h1 h2=>ite_some h1 (bnd_to rfl (ite_some h2 (bnd_to rfl rfl)))) (fun j hj _=>row1 l hj _) (fun j hj _=>row2n l hj) ?_) ?_
     ·refine view_el (fun e h1 h2 => ite_some h1 (bnd_to rfl (ite_some h2 (bnd_to rfl rfl)))) ?_ ?_
      ·have := xrow_okF (Q := l.map (fun x : FrT => x.2.2.1) ++ [d]) (k := (l.map (fun x : FrT => x.2.2.1)).length) (d := d) (by simp)
       exact ⟨this.1,this.2.1⟩
      ·have := xrow_okF (Q := l.map (fun x : FrT => x.2.2.2.1)) (k := a) (d := l[a].2.2.2.1) (by simp [ha])
       exact ⟨this.1,this.2.1⟩
     ·rfl
    ·refine cond_t (by simp [Dat.pickB, Dat.ine, Dat.ofN, Dat.len, h2]) ?_
     rw [if_neg (show ¬ (plF l a∧l[a].1=1∧(d.length : Int)=c.2.1) from fun hm=>h2 hm.2.2)]; rfl
   ·refine cond_t (by simp [Dat.pickB, Dat.ine, h1]) ?_
    rw [if_neg (show ¬ (plF l a∧l[a].1=1∧(d.length : Int)=c.2.1) from fun hm=>h1 hm.2.1)]; rfl
  ·refine cond_t (by simp [Dat.bnot, Dat.pickB, hp]) ?_
   rw [if_neg (fun hm=>hp hm.1)]; rfl
 ·rw [if_neg hc]
  exact cond_t (by simp [Dat.ine,hc]) rfl
theorem frames_Write_spec (c : CfgT) (l : List FrT) (h a : Int) (d : List Int) (hs : smallF l) (hd : d.length ≤ 1000) : frames_Write (c, ((l, (h, ())), (a, d))) = some (writeA c l h a d) := by
 unfold frames_Write writeA ansF
 dsimp only
 refine bind_to (check_ok hs) ?_
 by_cases hc : chkF c l h=0
 ·rw [if_pos hc]
  refine cond_f (by simp [Dat.ine,hc]) ?_
  refine bind_to (isPlace_ok l h a) ?_
  by_cases hp : plF l a
  ·obtain ⟨a, rfl⟩ : ∃ n : Nat, a = n := ⟨a.toNat, by have := hp.1; omega⟩
   have ha : a < l.length:=by have:=hp.2; omega
   have hix : Dat.Ix (a : Int) (Dat.len l):=⟨by omega,by simp only [Dat.len]; omega⟩
   have hsm:=hs.2 _ (List.getElem_mem ha)
   have hel:=elF_nat ha
   rw [hel]
   refine cond_f (by simp [Dat.bnot,Dat.pickB,hp]) ?_
   refine ite_some hix ?_
   refine bnd_to (fget l ha) ?_
   by_cases h1 : l[a].1=2
   ·refine cond_f (by simp [Dat.pickB, Dat.ine, h1]) ?_
    by_cases h2 : (d.length : Int)=c.2.1
    ·refine cond_f (by simp [Dat.pickB, Dat.ine, Dat.ofN, Dat.len, h2]) ?_
     rw [if_pos (show plF l a∧l[a].1=2∧(d.length : Int)=c.2.1 from ⟨hp,h1,h2⟩)]
     refine iteN (show ¬ l.length=0 by omega) ?_
     refine ite_some (Nat.le_refl _) ?_
     refine iteN (show ¬ l.length=0 by omega) ?_
     refine ite_none (clone0 hs) ?_
     refine bnd_to rfl ?_
     refine bind_to (mixF_zero l (fun x=>rfl)) ?_
     refine twin_loop l hs _ _ ?_
     dsimp only
     refine end1 hs (by omega) ?_
     refine ite_some (in_of (by simp only [Dat.len,mixF_len]; exact ha)) (ite_some (ltN_of (by simp only [Dat.len,mixF_len]; exact ha)) ?_)
     refine bnd_to (mixF_at ha _) ?_
     refine bind_to (cloneB_spec _ hd) ?_
     refine bnd_to rfl ?_
     refine ite_some (in_of (by simp only [Dat.len,mixF_len]; exact ha)) (ite_some (ltN_of (by simp only [Dat.len,mixF_len]; exact ha)) ?_)
     rw [toN_of]
     refine bnd_to rfl ?_
     refine end2 (l:=l) rfl (view_set (l:=l) (Q1:=l.map (fun x=>x.2.2.1)++[d]) (Q2:=l.map (fun x=>x.2.2.2.1)) (y:=writeF l[a] d) (fun e h1 h2=>ite_some h1 (bnd_to rfl (ite_some h2 (bnd_to rfl rfl)))) (fun j hj _=>row1 l hj _) (fun j hj _=>row2n l hj) ?_) ?_
     ·refine view_el (fun e h1 h2 => ite_some h1 (bnd_to rfl (ite_some h2 (bnd_to rfl rfl)))) ?_ ?_
      ·have := xrow_okF (Q := l.map (fun x : FrT => x.2.2.1) ++ [d]) (k := (l.map (fun x : FrT => x.2.2.1)).length) (d := d) (by simp)
       exact ⟨this.1,this.2.1⟩
      ·have := xrow_okF (Q := l.map (fun x : FrT => x.2.2.2.1)) (k := a) (d := l[a].2.2.2.1) (by simp [ha])
       exact ⟨this.1,this.2.1⟩
     ·rfl
    ·refine cond_t (by simp [Dat.pickB, Dat.ine, Dat.ofN, Dat.len, h2]) ?_
     rw [if_neg (show ¬ (plF l a∧l[a].1=2∧(d.length : Int)=c.2.1) from fun hm=>h2 hm.2.2)]; rfl
   ·refine cond_t (by simp [Dat.pickB, Dat.ine, h1]) ?_
    rw [if_neg (show ¬ (plF l a∧l[a].1=2∧(d.length : Int)=c.2.1) from fun hm=>h1 hm.2.1)]; rfl
  ·refine cond_t (by simp [Dat.bnot, Dat.pickB, hp]) ?_
   rw [if_neg (fun hm=>hp hm.1)]; rfl
 ·rw [if_neg hc]
  exact cond_t (by simp [Dat.ine,hc]) rfl
theorem frames_Clean_spec (c : CfgT) (l : List FrT) (h a : Int) (hs : smallF l) : frames_Clean (c, ((l, (h, ())), a)) = some (cleanA c l h a) := by
 unfold frames_Clean cleanA ansF
 dsimp only
 refine bind_to (check_ok hs) ?_
 by_cases hc : chkF c l h=0
 ·rw [if_pos hc]
  refine cond_f (by simp [Dat.ine,hc]) ?_
  refine bind_to (isPlace_ok l h a) ?_
  by_cases hp : plF l a
  ·obtain ⟨a, rfl⟩ : ∃ n : Nat, a = n := ⟨a.toNat, by have := hp.1; omega⟩
   have ha : a < l.length:=by have:=hp.2; omega
   have hix : Dat.Ix (a : Int) (Dat.len l):=⟨by omega,by simp only [Dat.len]; omega⟩
   have hsm:=hs.2 _ (List.getElem_mem ha)
   have hel:=elF_nat ha
   rw [hel]
   refine cond_f (by simp [Dat.bnot,Dat.pickB,hp]) ?_
   refine ite_some hix ?_
   refine bnd_to (fget l ha) ?_
   cases h1 : l[a].2.2.2.2.2.1 with
   | true =>
    refine cond_f rfl ?_
    rw [if_pos (show plF l a∧true=true from ⟨hp,rfl⟩)]
    refine iteN (show ¬ l.length=0 by omega) ?_
    refine ite_some (Nat.le_refl _) ?_
    refine iteN (show ¬ l.length=0 by omega) ?_
    refine ite_none (clone0 hs) ?_
    refine bnd_to rfl ?_
    refine bind_to (mixF_zero l (fun x=>rfl)) ?_
    refine twin_loop l hs _ _ ?_
    dsimp only
    refine end1 hs (by omega) ?_
    refine ite_some (in_of (by simp only [Dat.len,mixF_len]; exact ha)) (ite_some (ltN_of (by simp only [Dat.len,mixF_len]; exact ha)) ?_)
    refine bnd_to (mixF_at ha _) ?_
    refine ite_some (in_of (by simp only [Dat.len,mixF_len]; exact ha)) (ite_some (ltN_of (by simp only [Dat.len,mixF_len]; exact ha)) ?_)
    rw [toN_of]
    refine bnd_to rfl ?_
    refine end2 (l:=l) rfl (view_set (l:=l) (Q1:=l.map (fun x=>x.2.2.1)) (Q2:=l.map (fun x=>x.2.2.2.1)) (y:=cleanF l[a]) (fun e h1 h2=>ite_some h1 (bnd_to rfl (ite_some h2 (bnd_to rfl rfl)))) (fun j hj _=>row1n l hj) (fun j hj _=>row2n l hj) ?_) ?_
    ·refine view_el (fun e h1 h2 => ite_some h1 (bnd_to rfl (ite_some h2 (bnd_to rfl rfl)))) ?_ ?_
     ·have := xrow_okF (Q := l.map (fun x : FrT => x.2.2.1)) (k := a) (d := l[a].2.2.1) (by simp [ha])
      exact ⟨this.1,this.2.1⟩
     ·have := xrow_okF (Q := l.map (fun x : FrT => x.2.2.2.1)) (k := a) (d := l[a].2.2.2.1) (by simp [ha])
      exact ⟨this.1,this.2.1⟩
    ·rfl
   | false =>
    refine cond_t rfl ?_
    rw [if_neg (show ¬ (plF l a∧false=true) from fun hm=>by cases hm.2)]; rfl
  ·refine cond_t (by simp [Dat.bnot, Dat.pickB, hp]) ?_
   rw [if_neg (fun hm=>hp hm.1)]; rfl
 ·rw [if_neg hc]
  exact cond_t (by simp [Dat.ine,hc]) rfl
theorem frames_Pin_spec (c : CfgT) (l : List FrT) (h a cl : Int) (hs : smallF l) : frames_Pin (c, ((l, (h, ())), (a, cl))) = some (pinA c l h a cl) := by
 unfold frames_Pin pinA ansF
 dsimp only
 refine bind_to (check_ok hs) ?_
 by_cases hc : chkF c l h=0
 ·rw [if_pos hc]
  refine cond_f (by simp [Dat.ine,hc]) ?_
  refine bind_to (isPlace_ok l h a) ?_
  by_cases hp : plF l a
  ·obtain ⟨a, rfl⟩ : ∃ n : Nat, a = n := ⟨a.toNat, by have := hp.1; omega⟩
   have ha : a < l.length:=by have:=hp.2; omega
   have hix : Dat.Ix (a : Int) (Dat.len l):=⟨by omega,by simp only [Dat.len]; omega⟩
   have hsm:=hs.2 _ (List.getElem_mem ha)
   have hel:=elF_nat ha
   rw [hel]
   refine cond_f (by simp [Dat.bnot,Dat.pickB,hp]) ?_
   refine bind_to (isClient_ok c cl) ?_
   by_cases hcl : clF c cl
   ·refine cond_f (by simp [Dat.bnot, Dat.pickB, hcl]) ?_
    refine ite_some hix ?_
    refine bnd_to (fget l ha) ?_
    obtain ⟨hm,hn,⟨hh0,hh1⟩,hall,hnd⟩:=chkF_ok hc
    have hokx:=List.all_eq_true.1 hall _ (List.getElem_mem ha)
    have hcn : (l[a].2.2.2.1.length : Int) = c.2.2.2.2.2.2.1 ∧ pinsOk l[a].2.2.2.1 = true := by
     unfold okF at hokx
     simp only [Bool.and_eq_true,decide_eq_true_eq] at hokx
     exact ⟨hokx.1.1,hokx.1.2⟩
    obtain ⟨cl,rfl⟩ : ∃ n : Nat,cl=n:=⟨cl.toNat,by have:=hcl.1; omega⟩
    have hclt : cl < l[a].2.2.2.1.length:=by have:=hcl.2; have:=hcn.1; omega
    have hcx : Dat.Ix (cl : Int) (Dat.len l[a].2.2.2.1):=⟨by omega,by simp only [Dat.len]; omega⟩
    have hgd : l[a].2.2.2.1.getD ((cl : Int)).toNat 0=l[a].2.2.2.1[cl]:=by simp [List.getD,hclt]
    have hbd : 0 ≤ l[a].2.2.2.1[cl] ∧ l[a].2.2.2.1[cl] ≤ 8 := by
     have:=List.all_eq_true.1 hcn.2 _ (List.getElem_mem hclt)
     simpa using this
    rw [hgd]
    by_cases h1 : l[a].1=0
    ·refine cond_t (by simp [Dat.ieq, Dat.pickB, h1]) ?_
     rw [if_neg (show ¬ (plF l a∧clF c cl∧l[a].1≠0) from fun hm=>hm.2.2 h1)]; rfl
    ·refine cond_f (by simp [Dat.ieq, Dat.pickB, h1]) ?_
     rw [if_pos (show plF l a∧clF c cl∧l[a].1≠0 from ⟨hp,hcl,h1⟩)]
     refine ite_some hix ?_
     refine bnd_to (fget l ha) ?_
     refine ite_some hcx ?_
     refine bnd_to (iget _ hclt) ?_
     by_cases h2 : l[a].2.2.2.1[cl]=8
     ·refine cond_t (by simp [Dat.ieq, Dat.pickB, h2]) ?_
      rw [if_pos h2]; rfl
     ·refine cond_f (by simp [Dat.ieq, Dat.pickB, h2]) ?_
      rw [if_neg h2]
      refine iteN (show ¬ l.length=0 by omega) ?_
      refine ite_some (Nat.le_refl _) ?_
      refine iteN (show ¬ l.length=0 by omega) ?_
      refine ite_none (clone0 hs) ?_
      refine bnd_to rfl ?_
      refine bind_to (mixF_zero l (fun x=>rfl)) ?_
      refine twin_loop l hs _ _ ?_
      dsimp only
      refine end1 hs (by omega) ?_
      refine ite_some (in_of (by simp only [Dat.len,mixF_len]; exact ha)) (ite_some (ltN_of (by simp only [Dat.len,mixF_len]; exact ha)) ?_)
      refine bnd_to (mixF_at ha _) ?_
      have hpa : 0 < l[a].2.2.2.1.length:=by omega
      have hxr : Dat.xrow a l[a].2.2.2.1=.ref a 0 l[a].2.2.2.1.length l[a].2.2.2.1.length:=if_neg (by omega)
      have hrow : (l.map (fun x : FrT=>x.2.2.2.1)).getD a []=l[a].2.2.2.1:=by simp [List.getD,ha]
      have hpt : Dat.XPt (l.map (fun x : FrT => x.2.2.2.1)) (mrowF a l[a]).2.2.2.1 (Dat.toN (cl : Int)) := by
       show MixE.xpt _ _ (Dat.xrow a l[a].2.2.2.1)=true
       rw [hxr]
       simp only [MixE.xpt,hrow]
       simp [ha,Dat.toN]
       omega
      have hxl : Dat.xlen (mrowF a l[a]).2.2.2.1 = l[a].2.2.2.1.length := by
       show Dat.xlen (Dat.xrow a l[a].2.2.2.1)=_
       rw [hxr]
      have hcix : Dat.Ix (cl : Int) (Dat.xlen (mrowF a l[a]).2.2.2.1):=⟨by omega,by rw [hxl]; omega⟩
      refine ite_some hcix (ite_some hpt (ite_some hpt ?_))
      have hxat : Dat.xat (l.map (fun x : FrT => x.2.2.2.1)) (mrowF a l[a]).2.2.2.1 (Dat.toN (cl : Int)) 0 = l[a].2.2.2.1[cl] := by
       show Dat.xat _ (Dat.xrow a l[a].2.2.2.1) _ _=_
       rw [hxr]
       simp only [Dat.xat,Dat.xk,Dat.xoff,hrow]
       simp [Dat.toN,List.getD,hclt]
      refine bnd_to hxat ?_
      refine bnd_to (wrapI (x:=Dat.add l[a].2.2.2.1[cl] 1) (by simp only [Dat.add]; omega)) ?_
      refine ite_some hcix (ite_some hpt (ite_some hpt ?_))
      have hxset : Dat.xset (l.map (fun x : FrT => x.2.2.2.1)) (mrowF a l[a]).2.2.2.1 (Dat.toN (cl : Int)) (Dat.add l[a].2.2.2.1[cl] 1) = (l.map (fun x : FrT => x.2.2.2.1)).set a (l[a].2.2.2.1.set cl (Dat.add l[a].2.2.2.1[cl] 1)) := by
       show Dat.xset _ (Dat.xrow a l[a].2.2.2.1) _ _=_
       rw [hxr]
       simp only [Dat.xset,Dat.xk,Dat.xoff,hrow]
       simp [Dat.toN]
      refine bnd_to hxset ?_
      refine ite_some (in_of (by simp only [Dat.len,mixF_len]; exact ha)) (ite_some (ltN_of (by simp only [Dat.len,mixF_len]; exact ha)) ?_)
      rw [toN_of]
      refine bnd_to rfl ?_
      refine end2 (l:=l) rfl (view_set (l:=l) (Q1:=l.map (fun x=>x.2.2.1)) (Q2:=(l.map (fun x : FrT=>x.2.2.2.1)).set a (l[a].2.2.2.1.set cl (Dat.add l[a].2.2.2.1[cl] 1))) (y:=pinnF l[a] cl (l[a].2.2.2.1[cl]+1) true) (fun e h1 h2=>ite_some h1 (bnd_to rfl (ite_some h2 (bnd_to rfl rfl)))) (fun j hj _=>row1n l hj) (fun j hj hja=>by rw [List.getElem?_set_ne (Ne.symm hja)]; exact row2n l hj) ?_) ?_
      ·refine view_el (fun e h1 h2 => ite_some h1 (bnd_to rfl (ite_some h2 (bnd_to rfl rfl)))) ?_ ?_
       ·have := xrow_okF (Q := l.map (fun x : FrT => x.2.2.1)) (k := a) (d := l[a].2.2.1) (by simp [ha])
        exact ⟨this.1,this.2.1⟩
       ·have := xrow_okF (Q := (l.map (fun x : FrT => x.2.2.2.1)).set a (l[a].2.2.2.1.set cl (Dat.add l[a].2.2.2.1[cl] 1))) (k := a) (d := l[a].2.2.2.1.set cl (Dat.add l[a].2.2.2.1[cl] 1)) (by simp [ha])
        have hx2 : Dat.xrow a (l[a].2.2.2.1.set cl (Dat.add l[a].2.2.2.1[cl] 1)) = (mrowF a l[a]).2.2.2.1 := by
         show _=Dat.xrow a l[a].2.2.2.1
         simp only [Dat.xrow,List.length_set]
         rw [if_neg (by omega),if_neg (by omega)]
        rw [hx2] at this
        exact ⟨this.1,this.2.1⟩
      ·simp [pinnF,hgd]
   ·refine cond_t (by simp [Dat.bnot, Dat.pickB, hcl]) ?_
    rw [if_neg (show ¬ (plF l a∧clF c cl∧l[a].1≠0) from fun hm=>hcl hm.2.1)]; rfl
  ·refine cond_t (by simp [Dat.bnot, Dat.pickB, hp]) ?_
   rw [if_neg (fun hm=>hp hm.1)]; rfl
 ·rw [if_neg hc]
  exact cond_t (by simp [Dat.ine,hc]) rfl
theorem frames_Unpin_spec (c : CfgT) (l : List FrT) (h a cl : Int) (hs : smallF l) : frames_Unpin (c, ((l, (h, ())), (a, cl))) = some (unpinA c l h a cl) := by
 unfold frames_Unpin unpinA ansF
 dsimp only
 refine bind_to (check_ok hs) ?_
 by_cases hc : chkF c l h=0
 ·rw [if_pos hc]
  refine cond_f (by simp [Dat.ine,hc]) ?_
  refine bind_to (isPlace_ok l h a) ?_
  by_cases hp : plF l a
  ·obtain ⟨a, rfl⟩ : ∃ n : Nat, a = n := ⟨a.toNat, by have := hp.1; omega⟩
   have ha : a < l.length:=by have:=hp.2; omega
   have hix : Dat.Ix (a : Int) (Dat.len l):=⟨by omega,by simp only [Dat.len]; omega⟩
   have hsm:=hs.2 _ (List.getElem_mem ha)
   have hel:=elF_nat ha
   rw [hel]
   refine cond_f (by simp [Dat.bnot,Dat.pickB,hp]) ?_
   refine bind_to (isClient_ok c cl) ?_
   by_cases hcl : clF c cl
   ·refine cond_f (by simp [Dat.bnot, Dat.pickB, hcl]) ?_
    refine ite_some hix ?_
    refine bnd_to (fget l ha) ?_
    obtain ⟨hm,hn,⟨hh0,hh1⟩,hall,hnd⟩:=chkF_ok hc
    have hokx:=List.all_eq_true.1 hall _ (List.getElem_mem ha)
    have hcn : (l[a].2.2.2.1.length : Int) = c.2.2.2.2.2.2.1 ∧ pinsOk l[a].2.2.2.1 = true := by
     unfold okF at hokx
     simp only [Bool.and_eq_true,decide_eq_true_eq] at hokx
     exact ⟨hokx.1.1,hokx.1.2⟩
    obtain ⟨cl,rfl⟩ : ∃ n : Nat,cl=n:=⟨cl.toNat,by have:=hcl.1; omega⟩
    have hclt : cl < l[a].2.2.2.1.length:=by have:=hcl.2; have:=hcn.1; omega
    have hcx : Dat.Ix (cl : Int) (Dat.len l[a].2.2.2.1):=⟨by omega,by simp only [Dat.len]; omega⟩
    have hgd : l[a].2.2.2.1.getD ((cl : Int)).toNat 0=l[a].2.2.2.1[cl]:=by simp [List.getD,hclt]
    have hbd : 0 ≤ l[a].2.2.2.1[cl] ∧ l[a].2.2.2.1[cl] ≤ 8 := by
     have:=List.all_eq_true.1 hcn.2 _ (List.getElem_mem hclt)
     simpa using this
    rw [hgd]
    rw [if_pos (show plF l a∧clF c cl from ⟨hp,hcl⟩)]
    by_cases h1 : l[a].1=2
    ·refine cond_f (by simp [Dat.ine, Dat.pickB, h1]) ?_
     refine ite_some hix ?_
     refine bnd_to (fget l ha) ?_
     refine ite_some hcx ?_
     refine bnd_to (iget _ hclt) ?_
     by_cases h2 : l[a].2.2.2.1[cl]=0
     ·refine cond_t (by simp [Dat.ieq, Dat.pickB, h2]) ?_
      rw [if_pos (show l[a].1≠2∨l[a].2.2.2.1[cl]=0 from .inr h2)]; rfl
     ·refine cond_f (by simp [Dat.ieq, Dat.pickB, h2]) ?_
      rw [if_neg (show ¬ (l[a].1≠2∨l[a].2.2.2.1[cl]=0) from fun hx=>hx.elim (fun k=>k h1) h2)]
      refine iteN (show ¬ l.length=0 by omega) ?_
      refine ite_some (Nat.le_refl _) ?_
      refine iteN (show ¬ l.length=0 by omega) ?_
      refine ite_none (clone0 hs) ?_
      refine bnd_to rfl ?_
      refine bind_to (mixF_zero l (fun x=>rfl)) ?_
      refine twin_loop l hs _ _ ?_
      dsimp only
      refine end1 hs (by omega) ?_
      refine ite_some (in_of (by simp only [Dat.len,mixF_len]; exact ha)) (ite_some (ltN_of (by simp only [Dat.len,mixF_len]; exact ha)) ?_)
      refine bnd_to (mixF_at ha _) ?_
      have hpa : 0 < l[a].2.2.2.1.length:=by omega
      have hxr : Dat.xrow a l[a].2.2.2.1=.ref a 0 l[a].2.2.2.1.length l[a].2.2.2.1.length:=if_neg (by omega)
      have hrow : (l.map (fun x : FrT=>x.2.2.2.1)).getD a []=l[a].2.2.2.1:=by simp [List.getD,ha]
      have hpt : Dat.XPt (l.map (fun x : FrT => x.2.2.2.1)) (mrowF a l[a]).2.2.2.1 (Dat.toN (cl : Int)) := by
       show MixE.xpt _ _ (Dat.xrow a l[a].2.2.2.1)=true
       rw [hxr]
       simp only [MixE.xpt,hrow]
       simp [ha,Dat.toN]
       omega
      have hxl : Dat.xlen (mrowF a l[a]).2.2.2.1 = l[a].2.2.2.1.length := by
       show Dat.xlen (Dat.xrow a l[a].2.2.2.1)=_
       rw [hxr]
      have hcix : Dat.Ix (cl : Int) (Dat.xlen (mrowF a l[a]).2.2.2.1):=⟨by omega,by rw [hxl]; omega⟩
      refine ite_some hcix (ite_some hpt (ite_some hpt ?_))
      have hxat : Dat.xat (l.map (fun x : FrT => x.2.2.2.1)) (mrowF a l[a]).2.2.2.1 (Dat.toN (cl : Int)) 0 = l[a].2.2.2.1[cl] := by
       show Dat.xat _ (Dat.xrow a l[a].2.2.2.1) _ _=_
       rw [hxr]
       simp only [Dat.xat,Dat.xk,Dat.xoff,hrow]
       simp [Dat.toN,List.getD,hclt]
      refine bnd_to hxat ?_
      refine bnd_to (wrapI (x:=Dat.sub l[a].2.2.2.1[cl] 1) (by simp only [Dat.sub]; omega)) ?_
      refine ite_some hcix (ite_some hpt (ite_some hpt ?_))
      have hxset : Dat.xset (l.map (fun x : FrT => x.2.2.2.1)) (mrowF a l[a]).2.2.2.1 (Dat.toN (cl : Int)) (Dat.sub l[a].2.2.2.1[cl] 1) = (l.map (fun x : FrT => x.2.2.2.1)).set a (l[a].2.2.2.1.set cl (Dat.sub l[a].2.2.2.1[cl] 1)) := by
       show Dat.xset _ (Dat.xrow a l[a].2.2.2.1) _ _=_
       rw [hxr]
       simp only [Dat.xset,Dat.xk,Dat.xoff,hrow]
       simp [Dat.toN]
      refine bnd_to hxset ?_
      refine ite_some (in_of (by simp only [Dat.len,mixF_len]; exact ha)) (ite_some (ltN_of (by simp only [Dat.len,mixF_len]; exact ha)) ?_)
      rw [toN_of]
      refine bnd_to rfl ?_
      refine end2 (l:=l) rfl (view_set (l:=l) (Q1:=l.map (fun x=>x.2.2.1)) (Q2:=(l.map (fun x : FrT=>x.2.2.2.1)).set a (l[a].2.2.2.1.set cl (Dat.sub l[a].2.2.2.1[cl] 1))) (y:=pinnF l[a] cl (l[a].2.2.2.1[cl] - 1) l[a].2.2.2.2.1) (fun e h1 h2=>ite_some h1 (bnd_to rfl (ite_some h2 (bnd_to rfl rfl)))) (fun j hj _=>row1n l hj) (fun j hj hja=>by rw [List.getElem?_set_ne (Ne.symm hja)]; exact row2n l hj) ?_) ?_
      ·refine view_el (fun e h1 h2 => ite_some h1 (bnd_to rfl (ite_some h2 (bnd_to rfl rfl)))) ?_ ?_
       ·have := xrow_okF (Q := l.map (fun x : FrT => x.2.2.1)) (k := a) (d := l[a].2.2.1) (by simp [ha])
        exact ⟨this.1,this.2.1⟩
       ·have := xrow_okF (Q := (l.map (fun x : FrT => x.2.2.2.1)).set a (l[a].2.2.2.1.set cl (Dat.sub l[a].2.2.2.1[cl] 1))) (k := a) (d := l[a].2.2.2.1.set cl (Dat.sub l[a].2.2.2.1[cl] 1)) (by simp [ha])
        have hx2 : Dat.xrow a (l[a].2.2.2.1.set cl (Dat.sub l[a].2.2.2.1[cl] 1)) = (mrowF a l[a]).2.2.2.1 := by
         show _=Dat.xrow a l[a].2.2.2.1
         simp only [Dat.xrow,List.length_set]
         rw [if_neg (by omega),if_neg (by omega)]
        rw [hx2] at this
        exact ⟨this.1,this.2.1⟩
      ·simp [pinnF,hgd]
    ·refine cond_t (by simp [Dat.ine, Dat.pickB, h1]) ?_
     rw [if_pos (show l[a].1≠2∨l[a].2.2.2.1[cl]=0 from .inl h1)]; rfl
   ·refine cond_t (by simp [Dat.bnot, Dat.pickB, hcl]) ?_
    rw [if_neg (show ¬ (plF l a∧clF c cl) from fun hm=>hcl hm.2)]; rfl
  ·refine cond_t (by simp [Dat.bnot, Dat.pickB, hp]) ?_
   rw [if_neg (fun hm=>hp hm.1)]; rfl
 ·rw [if_neg hc]
  exact cond_t (by simp [Dat.ine,hc]) rfl
end Go.Proofs.Ytablhcjjfiepaaa
