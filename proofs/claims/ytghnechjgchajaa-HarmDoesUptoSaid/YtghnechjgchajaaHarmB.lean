/- Harms: a device that is harmed. -/
import Derived.Test.YtghnechjgchajaaHarmA
namespace Go.Proofs.Ytghnechjgchajaa
open Go.Eng
set_option linter.unusedVariables false
set_option linter.unusedSimpArgs false
open Classical in
noncomputable def hrm(c:CfgT)(d:List Lev)(l:List SeeT)(h:xZ9):Option (List Lev):=
 if h.1=5 then(if 0≤h.2.2.2.2.1∧h.2.2.2.2.1≤(wrL l).length then some (reps (nwS c) ((wrL l).take h.2.2.2.2.1.toNat))else none)
 else if plD d h.2.1 [h.2.2.1]then
  (if h.1=1 then(if h.2.2.2.2.2.1≠0∧0≤h.2.2.2.2.1∧h.2.2.2.2.1<(bkt d h.2.1 h.2.2.1).length then some (wrB d h.2.1 h.2.2.1 ((bkt d h.2.1 h.2.2.1).set h.2.2.2.2.1.toNat (Z.bxor .u8 ((bkt d h.2.1 h.2.2.1).getD h.2.2.2.2.1.toNat 0) h.2.2.2.2.2.1)))else none)
  else if h.1=2 then(if plD d h.2.1 [h.2.2.2.1]then some (wrB (wrB d h.2.1 h.2.2.1 (bkt d h.2.1 h.2.2.2.1)) h.2.1 h.2.2.2.1 (bkt d h.2.1 h.2.2.1))else none)
  else if h.1=4 then(if(vers l h.2.1 h.2.2.1).length=1 then some (wrB d h.2.1 h.2.2.1 (List.replicate (bkt d h.2.1 h.2.2.1).length 0))else if 2≤(vers l h.2.1 h.2.2.1).length then some (wrB d h.2.1 h.2.2.1 ((vers l h.2.1 h.2.2.1).getD ((vers l h.2.1 h.2.2.1).length-2) []))else none)
  else if h.1=3 then(if 0≤h.2.2.2.2.1∧h.2.2.2.2.1<(vers l h.2.1 h.2.2.1).length then some (wrB d h.2.1 h.2.2.1 ((vers l h.2.1 h.2.2.1).getD h.2.2.2.2.1.toNat []))else none)
  else none)
 else none
open Classical in
theorem vQb(c:CfgT)(d:List Lev)(l:List SeeT)(h:xZ9)(h5:¬h.1=5)(hp:plD d h.2.1 [h.2.2.1]):hrm c d l h=
  (if h.1=1 then(if h.2.2.2.2.2.1≠0∧0≤h.2.2.2.2.1∧h.2.2.2.2.1<(bkt d h.2.1 h.2.2.1).length then some (wrB d h.2.1 h.2.2.1 ((bkt d h.2.1 h.2.2.1).set h.2.2.2.2.1.toNat (Z.bxor .u8 ((bkt d h.2.1 h.2.2.1).getD h.2.2.2.2.1.toNat 0) h.2.2.2.2.2.1)))else none)
  else if h.1=2 then(if plD d h.2.1 [h.2.2.2.1]then some (wrB (wrB d h.2.1 h.2.2.1 (bkt d h.2.1 h.2.2.2.1)) h.2.1 h.2.2.2.1 (bkt d h.2.1 h.2.2.1))else none)
  else if h.1=4 then(if(vers l h.2.1 h.2.2.1).length=1 then some (wrB d h.2.1 h.2.2.1 (List.replicate (bkt d h.2.1 h.2.2.1).length 0))else if 2≤(vers l h.2.1 h.2.2.1).length then some (wrB d h.2.1 h.2.2.1 ((vers l h.2.1 h.2.2.1).getD ((vers l h.2.1 h.2.2.1).length-2) []))else none)
  else if h.1=3 then(if 0≤h.2.2.2.2.1∧h.2.2.2.2.1<(vers l h.2.1 h.2.2.1).length then some (wrB d h.2.1 h.2.2.1 ((vers l h.2.1 h.2.2.1).getD h.2.2.2.2.1.toNat []))else none)
  else none):=by
 unfold hrm;rw[if_neg h5,if_pos hp]
noncomputable def hrmA:Option (List Lev)→(List Lev×Unit)×Int
 |some d=>((d,()),0)
 |none=>(([],()),2)
open Classical in
noncomputable def hrmD(c:CfgT)(d:List Lev)(l:List SeeT)(h:xZ9):(List Lev×Unit)×Int:=
 if zZs c d then(if∀x∈l,zW5 d x then hrmA (hrm c d l h)else(([],()),2))else(([],()),8)
theorem yJw{c:CfgT}{d:List Lev}{l:List SeeT}(hok:zZs c d)(hall:∀x∈l,zW5 d x):zZs c (nwS c)∧∀x∈l,zW5 (nwS c) x:=
 ⟨nw_ok hok.1,fun x hx=>(xXz (wKr hok (nw_ok hok.1)) x).1 (hall x hx)⟩
theorem rep_ok{c:CfgT}{d:List Lev}{l:List SeeT}(hok:zZs c d)(hall:∀x∈l,zW5 d x):repD c d l=((reps d l,()),0):=by
 unfold repD;rw[if_pos hok,if_pos hall]
theorem vXd{l:List SeeT}{x:SeeT}(h:x∈wrL l):x∈l:=(Kf.1 h).1
end Go.Proofs.Ytghnechjgchajaa
