/- FramesStay answers true. -/
import Derived.Test.YtablhcjjfiepaaaFrstay
import Derived.Test.YtablhcjjfiepaaaFramesClock
namespace Go.Proofs.Ytablhcjjfiepaaa
open Go.Eng
set_option linter.unusedVariables false
set_option linter.unusedSimpArgs false
set_option maxRecDepth 4000
abbrev FsT:=List FrT×(Int×Unit)
theorem mk6 {b : Nat} (hb : b≤1000) : Dat.MkOk 6 6 b:=Dat.MkOk_iff.2 (by omega)
theorem in6 {i : Nat} (h : i < 6) : Dat.In (i : Int) (Dat.toN 6):=⟨by omega,by simp only [Dat.toN]; omega⟩
theorem framesStay_any (c : CfgT) (l : List FrT) (h a pg cl : Int) (d : List Int) (hlen : l.length ≤ 9223372036854775807) : law25_FramesStay (c, ((l, (h, ())), (a, (pg, (cl, d))))) = some true := by
 unfold law25_FramesStay
 dsimp only
 refine bind_to alive25 ?_
 refine bind_to (ref25_Great_spec l h hlen) ?_
 cases hg : greatB l with
 | true=>exact cond_t rfl rfl
 | false =>
  have hs:=greatB_small hg
  refine cond_f rfl ?_
  by_cases hd : d.length > 100
  ·exact cond_t (by simp only [Dat.pickB,Dat.igt,Dat.ofN,Dat.len]; simp; omega) rfl
  refine cond_f (by simp only [Dat.pickB,Dat.igt,Dat.ofN,Dat.len]; simp; omega) ?_
  refine cond_f rfl ?_
  refine ite_some (mk6 (by omega)) (ite_some (mk6 (by omega)) ?_)
  have g0:=good_load c l h a pg cl hs
  have g1:=good_fill c l h a d hs (by omega)
  have g2:=good_pin c l h a cl hs
  have g3:=good_unpin c l h a cl hs
  have g4:=good_write c l h a d hs (by omega)
  have g5:=good_clean c l h a hs
  have hfl:=found_load c l h a pg cl hs
  have hfb : ∀ e,loadA c l h a pg cl=badF e→(loadA c l h a pg cl).1.1=[]:=fun e he=>by rw [he]; rfl
  refine bind_to (frames_Load_spec c l h a pg cl hs) ?_
  generalize loadA c l h a pg cl=A0 at g0 hfl hfb
  obtain ⟨⟨l0,⟨h0,_⟩⟩,e0⟩:=A0
  refine ite_some (in6 (i:=0) (by omega)) (ite_some (by decide) ?_)
  refine bnd_to (y:=[(l0,(h0,())),([],(0,())),([],(0,())),([],(0,())),([],(0,())),([],(0,()))]) rfl ?_
  refine ite_some (in6 (i:=0) (by omega)) (ite_some (by decide) ?_)
  refine bnd_to (y:=[e0,0,0,0,0,0]) rfl ?_
  refine bind_to (frames_Fill_spec c l h a d hs (by omega)) ?_
  generalize fillA c l h a d=A1 at g1
  obtain ⟨⟨l1,⟨h1,_⟩⟩,e1⟩:=A1
  refine ite_some (in6 (i:=1) (by omega)) (ite_some (by simp [Dat.Lt,Dat.len,Dat.addN,Dat.toN]) ?_)
  refine bnd_to (y:=[(l0,(h0,())),(l1,(h1,())),([],(0,())),([],(0,())),([],(0,())),([],(0,()))]) rfl ?_
  refine ite_some (in6 (i:=1) (by omega)) (ite_some (by simp [Dat.Lt,Dat.len,Dat.addN,Dat.toN]) ?_)
  refine bnd_to (y:=[e0,e1,0,0,0,0]) rfl ?_
  refine bind_to (frames_Pin_spec c l h a cl hs) ?_
  generalize pinA c l h a cl=A2 at g2
  obtain ⟨⟨l2,⟨h2,_⟩⟩,e2⟩:=A2
  refine ite_some (in6 (i:=2) (by omega)) (ite_some (by simp [Dat.Lt,Dat.len,Dat.addN,Dat.toN]) ?_)
  refine bnd_to (y:=[(l0,(h0,())),(l1,(h1,())),(l2,(h2,())),([],(0,())),([],(0,())),([],(0,()))]) rfl ?_
  refine ite_some (in6 (i:=2) (by omega)) (ite_some (by simp [Dat.Lt,Dat.len,Dat.addN,Dat.toN]) ?_)
  refine bnd_to (y:=[e0,e1,e2,0,0,0]) rfl ?_
  refine bind_to (frames_Unpin_spec c l h a cl hs) ?_
  generalize unpinA c l h a cl=A3 at g3
  obtain ⟨⟨l3,⟨h3,_⟩⟩,e3⟩:=A3
  refine ite_some (in6 (i:=3) (by omega)) (ite_some (by simp [Dat.Lt,Dat.len,Dat.addN,Dat.toN]) ?_)
  refine bnd_to (y:=[(l0,(h0,())),(l1,(h1,())),(l2,(h2,())),(l3,(h3,())),([],(0,())),([],(0,()))]) rfl ?_
  refine ite_some (in6 (i:=3) (by omega)) (ite_some (by simp [Dat.Lt,Dat.len,Dat.addN,Dat.toN]) ?_)
  refine bnd_to (y:=[e0,e1,e2,e3,0,0]) rfl ?_
  refine bind_to (frames_Write_spec c l h a d hs (by omega)) ?_
  generalize writeA c l h a d=A4 at g4
  obtain ⟨⟨l4,⟨h4,_⟩⟩,e4⟩:=A4
  refine ite_some (in6 (i:=4) (by omega)) (ite_some (by simp [Dat.Lt,Dat.len,Dat.addN,Dat.toN]) ?_)
  refine bnd_to (y:=[(l0,(h0,())),(l1,(h1,())),(l2,(h2,())),(l3,(h3,())),(l4,(h4,())),([],(0,()))]) rfl ?_
  refine ite_some (in6 (i:=4) (by omega)) (ite_some (by simp [Dat.Lt,Dat.len,Dat.addN,Dat.toN]) ?_)
  refine bnd_to (y:=[e0,e1,e2,e3,e4,0]) rfl ?_
  refine bind_to (frames_Clean_spec c l h a hs) ?_
  generalize cleanA c l h a=A5 at g5
  obtain ⟨⟨l5,⟨h5,_⟩⟩,e5⟩:=A5
  refine ite_some (in6 (i:=5) (by omega)) (ite_some (by simp [Dat.Lt,Dat.len,Dat.addN,Dat.toN]) ?_)
  refine bnd_to (y:=[(l0,(h0,())),(l1,(h1,())),(l2,(h2,())),(l3,(h3,())),(l4,(h4,())),(l5,(h5,()))]) rfl ?_
  refine ite_some (in6 (i:=5) (by omega)) (ite_some (by simp [Dat.Lt,Dat.len,Dat.addN,Dat.toN]) ?_)
  refine bnd_to (y:=[e0,e1,e2,e3,e4,e5]) rfl ?_
  have hG : ∀ i : Nat, i < 6 → GoodA c l h a ((Dat.get ([(l0, (h0, ())), (l1, (h1, ())), (l2, (h2, ())), (l3, (h3, ())), (l4, (h4, ())), (l5, (h5, ()))] : List FsT) (Dat.addN 0 (Dat.toN (i : Int))) ([], (0, ()))), (Dat.get [e0, e1, e2, e3, e4, e5] (Dat.addN 0 (Dat.toN (i : Int))) 0)) := by
   intro i hi
   rcases i with _ | _ | _ | _ | _ | _ | i
   ·exact g0
   ·exact g1
   ·exact g2
   ·exact g3
   ·exact g4
   ·exact g5
   ·omega
  have hl6 : Dat.len ([(l0,(h0,())),(l1,(h1,())),(l2,(h2,())),(l3,(h3,())),(l4,(h4,())),(l5,(h5,()))] : List FsT)=6:=rfl
  have he6 : Dat.len [e0,e1,e2,e3,e4,e5]=6:=rfl
  have hL0 : Dat.get ([(l0,(h0,())),(l1,(h1,())),(l2,(h2,())),(l3,(h3,())),(l4,(h4,())),(l5,(h5,()))] : List FsT) (Dat.addN 0 (Dat.toN 0)) ([],(0,()))=(l0,(h0,())):=rfl
  have hE0 : Dat.get [e0,e1,e2,e3,e4,e5] (Dat.addN 0 (Dat.toN 0)) 0=e0:=rfl
  generalize ([(l0,(h0,())),(l1,(h1,())),(l2,(h2,())),(l3,(h3,())),(l4,(h4,())),(l5,(h5,()))] : List FsT)=LL at hG hl6 hL0
  generalize [e0,e1,e2,e3,e4,e5]=EE at hG he6 hE0
  refine loop_inv (fun (s : Int)=>∃ i : Nat,s=i∧i≤6) (fun s=>6 - s.toNat) ?_ ⟨0,rfl,Nat.zero_le _⟩ (by show 6 - (0 : Int).toNat < _; omega)
  rintro s k ⟨i,rfl,hi⟩ hk
  have lt6 : ∀ {j : Nat},j < 6→Dat.Lt (Dat.addN 0 (Dat.toN (j : Int))) 6:=fun {j} hj=>by show 0+((j : Int)).toNat < 6; omega
  by_cases hlt : i < 6
  ·refine cond_t (decide_eq_true (by omega)) ?_
   have hin:=in6 hlt
   have hil : Dat.Lt (Dat.addN 0 (Dat.toN (i : Int))) (Dat.len LL):=by rw [hl6]; exact lt6 hlt
   have hie : Dat.Lt (Dat.addN 0 (Dat.toN (i : Int))) (Dat.len EE):=by rw [he6]; exact lt6 hlt
   refine ite_some hin (ite_some hie ?_)
   have hgi:=hG i hlt
   generalize hLi : Dat.get LL (Dat.addN 0 (Dat.toN (i : Int))) ([],(0,()))=Li at hgi
   generalize hEi : Dat.get EE (Dat.addN 0 (Dat.toN (i : Int))) 0=Ei at hgi
   refine bnd_to rfl ?_
   have go : k ((i : Int)+1)=some true:=hk _ ⟨i+1,rfl,hlt⟩ (by omega)
   rcases hgi with ⟨e,he,hb⟩ | ⟨n,rfl,hn,y,hy,hc,hsm⟩
   ·simp only [badF, Prod.mk.injEq] at hb
    obtain ⟨rfl,rfl⟩:=hb
    refine cond_t (by simp [Dat.ine,he]) ?_
    refine ite_some hin (ite_some hil ?_)
    refine bnd_to rfl ?_
    refine cond_f rfl ?_
    exact bnd_to (wrapI (x:=Dat.add (i : Int) 1) (by simp only [Dat.add]; omega)) go
   ·simp only [Prod.mk.injEq] at hy
    obtain ⟨rfl,rfl⟩:=hy
    refine cond_f rfl ?_
    refine ite_some hin (ite_some hil ?_)
    refine bnd_to rfl ?_
    refine bind_to (check_ok hsm) ?_
    rw [hc]
    refine cond_f rfl ?_
    refine ite_some hin (ite_some hil ?_)
    refine bnd_to rfl ?_
    refine cond_f (by simp [Dat.pickB,Dat.ine,Dat.ofN,Dat.len]) ?_
    refine cond_f (by simp [Dat.pickB,Dat.ilt]) ?_
    refine cond_f (by simp [Dat.pickB,Dat.ige,Dat.ofN,Dat.len]; omega) ?_
    refine ite_some hin (ite_some hil ?_)
    refine bnd_to rfl ?_
    refine bind_to (ref25_Twin_spec (l.set n y) h hsm) ?_
    have hll : (l.set n y).length=l.length:=List.length_set
    refine iteN (show ¬ (l.set n y).length=0 by rw [hll]; omega) ?_
    refine ite_some (show Dat.Ix (n : Int) (Dat.len l) from ⟨by omega,by simp only [Dat.len]; omega⟩) ?_
    refine bnd_to (fget l hn) ?_
    refine ite_some (in_of (by simp only [Dat.len]; omega)) (ite_some (ltN_of (by simp only [Dat.len]; omega)) ?_)
    rw [toN_of]
    refine bnd_to (y:=l) ?_ ?_
    ·show (l.set n y).set n l[n] = l
     rw [List.set_set]; simp
    refine ite_some (by simp only [Dat.Le,Dat.addN,Dat.len]; omega) ?_
    dsimp only
    rw [segall (M:=l) (by simp only [Dat.len]; omega)]
    refine bind_to (ref25_Same_self l h hs) ?_
    refine cond_f rfl ?_
    exact bnd_to (wrapI (x:=Dat.add (i : Int) 1) (by simp only [Dat.add]; omega)) go
  ·refine cond_f (decide_eq_false (by omega)) ?_
   refine ite_some (in6 (i:=0) (by omega)) (ite_some (by rw [hl6]; decide) ?_)
   refine bnd_to hL0 ?_
   have hsm0 : smallF l0 := by
    rcases g0 with ⟨e,he,hb⟩ | ⟨n,rfl,hn,y,hy,hc,hsm⟩
    ·have := congrArg (·.1.1) hb
     simp only [badF] at this
     rw [this]; exact ⟨by simp,fun x hx=>by cases hx⟩
    ·have := congrArg (·.1.1) hy
     dsimp only at this
     rw [this]; exact hsm
   refine bind_to (find_ok c l0 h0 pg hsm0) ?_
   refine cond_t rfl ?_
   refine ite_some (in6 (i:=0) (by omega)) (ite_some (by rw [he6]; decide) ?_)
   refine bnd_to hE0 ?_
   by_cases h00 : e0=0
   ·refine cond_f (by simp [Dat.ine, h00]) ?_
    obtain ⟨n,rfl,hn,hat,hc,_⟩:=hfl h00
    dsimp only at hat hc
    rw [if_pos hc,hat]
    refine cond_t rfl ?_
    simp [Dat.pickB,Dat.ieq]
   ·refine cond_t (by simp [Dat.ine, h00]) ?_
    rfl
theorem law25_FramesStay_true (d : Els p_law25_FramesStay.args) (hf : Fits p_law25_FramesStay.args d) : law25_FramesStay d = some true := by
 obtain ⟨c,⟨l,h,_⟩,a,pg,cl,dt⟩:=d
 have hl : l.length≤maxLen:=hf.2.1.1.1
 exact framesStay_any c l h a pg cl dt (by rw [maxLen_eq] at hl; exact hl)
end Go.Proofs.Ytablhcjjfiepaaa
