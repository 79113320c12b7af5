/- DevBack answers true. -/
import Derived.Test.YtnbmjkbbppcbcaaDevF
import Derived.Test.YtnbmjkbbppcbcaaDevH
namespace Go.Proofs.Ytnbmjkbbppcbcaa
open Go.Eng
set_option linter.unusedVariables false
set_option linter.unusedSimpArgs false
def c8 : CfgT:=(8,(4,(2,(2,(8,(2,(2,(4,(2,())))))))))
theorem wQ0 : zK6 ()=some c8:=rfl
theorem may8 : mayB c8=true:=by decide
theorem sh8 : shS c8=[(15,(96,())),(7,(104,())),(3,(104,()))]:=by rfl
theorem nw8 : nwS c8=[List.replicate 15 (List.replicate 96 0),List.replicate 7 (List.replicate 104 0),List.replicate 3 (List.replicate 104 0)]:=by
 unfold nwS; rw [sh8]; rfl
theorem vX7 {d : List Lev} (h : yW3 d=false) : d.length≤1000000000∧∀ L∈d,L.length≤1000000000:=by
 obtain ⟨h1,h2⟩:=wXv h
 exact ⟨by omega,fun L hL=>by have:=h2 L hL; omega⟩
theorem uQz {c : CfgT} {d : List Lev} (h : zYz c d) : d.length≤1000000000∧∀ L∈d,L.length≤1000000000:=by
 obtain ⟨b1,b2⟩:=yZu h
 exact ⟨by omega,fun L hL=>by have:=(b2 L hL).1; omega⟩
theorem wr8ok : wrOk (nwS c8) 2 [3,1] [List.replicate 104 3,List.replicate 104 1]:=by
 rw [nw8]
 refine ⟨⟨⟨by decide,by decide⟩,fun x hx=>?_⟩,rfl,fun q h h'=>?_⟩
 ·show 1 ≤ x ∧ x ≤ 3
  simp at hx; omega
 ·match q,h,h' with
  | 0,_,_=>rfl
  | 1,_,_=>rfl
theorem wr8 : wrs (nwS c8) 2 [3,1] [List.replicate 104 3,List.replicate 104 1]=[List.replicate 15 (List.replicate 96 0),List.replicate 7 (List.replicate 104 0),[List.replicate 104 1,List.replicate 104 0,List.replicate 104 3]]:=by
 rw [nw8]; rfl
theorem uXa : zYs ()=some true:=by
 have hok:=nw_ok may8
 have hok2:=wYf (wWm hok wr8ok) hok
 obtain ⟨b1,b2⟩:=uQz hok
 obtain ⟨e1,e2⟩:=uQz hok2
 unfold zYs
 refine zQv wQ0 (zQv (wKi c8) ?_)
 refine zQv wQ0 (zQv (wJj 3) (zQv (wJj 1) ?_))
 refine zQa (Qf _) (zQa (Qf _) ?_)
 have en : newD c8=((nwS c8,()),0):=if_pos may8
 rw [en]
 refine zQv (yW5 c8 (nwS c8) 2 [3,1] [List.replicate 104 3,List.replicate 104 1] b1 b2 (by simp) (by simp)) ?_
 have ew : wrD c8 (nwS c8) 2 [3,1] [List.replicate 104 3,List.replicate 104 1]=((wrs (nwS c8) 2 [3,1] [List.replicate 104 3,List.replicate 104 1],()),(zXw 2 2 [3,1] [List.replicate 104 3,List.replicate 104 1],0)):=by
  unfold wrD
  rw [if_pos hok,if_pos wr8ok]
 rw [ew]
 refine zQv wQ0 ?_
 refine zQa (Qf _) ?_
 refine zQv (yZs c8 (wrs (nwS c8) 2 [3,1] [List.replicate 104 3,List.replicate 104 1]) 2 [1,2] e1 e2 (by simp)) ?_
 have er : rdD c8 (wrs (nwS c8) 2 [3,1] [List.replicate 104 3,List.replicate 104 1]) 2 [1,2]=([List.replicate 104 1,List.replicate 104 0],(zXw 1 2 [1,2] [List.replicate 104 1,List.replicate 104 0],0)):=by
  unfold rdD
  rw [if_pos hok2,wr8]
  rw [if_pos ⟨⟨by decide,by decide⟩,fun x hx=>by
   show 1≤x∧x≤3
   simp at hx; omega⟩]
  rfl
 rw [er]
 refine zQs rfl ?_
 rw [nw8]
 refine zQs rfl (zQa ⟨by decide,by decide⟩ (zQd (y:=List.replicate 15 (List.replicate 96 0)) rfl ?_))
 refine zQs (by simp [Z.zQz,Z.ieq,Z.ofN,Z.len]) ?_
 refine zQa ⟨by decide,by decide⟩ (zQd (y:=List.replicate 15 (List.replicate 96 0)) rfl ?_)
 refine zQa ⟨by decide,by simp [Z.len]⟩ (zQd (y:=List.replicate 96 0) rfl ?_)
 refine zQs (by simp [Z.zQz,Z.ieq,Z.ofN,Z.len]) ?_
 refine zQs rfl (zQs rfl (zQs rfl (zQs rfl ?_)))
 refine zQa (Z.zZ3.2 ⟨by omega,Int.le_refl _,by omega,by omega⟩) (zQv (wJj 1) ?_)
 refine zQa (by show 0+(104 : Int).toNat≤(List.replicate ((104 : Int).toNat) (0 : Int)).length; simp) ?_
 refine zQv (zY8 _ _ (by simp)) ?_
 rw [decide_eq_true ?_]
 ·rfl
 ·rfl
end Go.Proofs.Ytnbmjkbbppcbcaa
