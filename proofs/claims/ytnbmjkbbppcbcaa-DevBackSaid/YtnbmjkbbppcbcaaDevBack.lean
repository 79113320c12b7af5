/- DevBack answers true. -/
import Derived.Test.YtnbmjkbbppcbcaaDevF
import Derived.Test.YtnbmjkbbppcbcaaDevH
namespace Go.Proofs.Ytnbmjkbbppcbcaa
open Go.Eng
set_option linter.unusedVariables false
set_option linter.unusedSimpArgs false
def c8 : CfgT:=(8,(4,(2,(2,(8,(2,(2,(4,(2,())))))))))
theorem wQj : zK3 ()=some c8:=rfl
theorem may8 : mayB c8=true:=by decide
theorem sh8 : shS c8=[(15,(96,())),(7,(104,())),(3,(104,()))]:=by rfl
theorem nw8 : nwS c8=[List.replicate 15 (List.replicate 96 0),List.replicate 7 (List.replicate 104 0),List.replicate 3 (List.replicate 104 0)]:=by
 unfold nwS; rw [sh8]; rfl
theorem vXm {d : List Lev} (h : yWy d=false) : d.length≤1000000000∧∀ L∈d,L.length≤1000000000:=by
 obtain ⟨h1,h2⟩:=vXl h
 exact ⟨by omega,fun L hL=>by have:=h2 L hL; omega⟩
theorem vY6 {c : CfgT} {d : List Lev} (h : zY6 c d) : d.length≤1000000000∧∀ L∈d,L.length≤1000000000:=by
 obtain ⟨b1,b2⟩:=yJs h
 exact ⟨by omega,fun L hL=>by have:=(b2 L hL).1; omega⟩
theorem wr8ok : wrOk (nwS c8) 2 [3,1] [List.replicate 104 3,List.replicate 104 1]:=by
 rw [nw8]
 refine ⟨⟨⟨by decide,by decide⟩,fun x hx=>?_⟩,rfl,fun q h h'=>?_⟩
 ·show 1 ≤ x ∧ x ≤ 3
  simp at hx; omega
 ·match q,h,h' with
  | 0,_,_=>rfl
  | 1,_,_=>rfl
theorem wr8 : wrs (nwS c8) 2 [3,1] [List.replicate 104 3,List.replicate 104 1]=[List.replicate 15 (List.replicate 96 0),List.replicate 7 (List.replicate 104 0),[List.replicate 104 1,List.replicate 104 0,List.replicate 104 3]]:=by
 rw [nw8]; rfl
theorem rd_len (c : CfgT) (d : List Lev) (m : Int) (at_ : List Int) : (rdD c d m at_).1.length≤at_.length:=by
 unfold rdD
 by_cases h : zY6 c d
 ·rw [if_pos h]
  by_cases hp : plD d m at_
  ·rw [if_pos hp]; simp
  ·rw [if_neg hp]; simp
 ·rw [if_neg h]; simp
theorem uWj : zYl ()=some true:=by
 have hok:=nw_ok may8
 have hok2:=xZd (wQ4 hok wr8ok) hok
 obtain ⟨b1,b2⟩:=vY6 hok
 obtain ⟨e1,e2⟩:=vY6 hok2
 unfold zYl
 refine zQ1 wQj (zQ1 (wZx c8) ?_)
 refine zQ1 wQj (zQ1 (wKy 3) (zQ1 (wKy 1) ?_))
 refine zQb (Qf _) (zQb (Qf _) ?_)
 have en : newD c8=((nwS c8,()),0):=if_pos may8
 rw [en]
 refine zQ1 (yW0 c8 (nwS c8) 2 [3,1] [List.replicate 104 3,List.replicate 104 1] b1 b2 (by simp) (by simp)) ?_
 have ew : wrD c8 (nwS c8) 2 [3,1] [List.replicate 104 3,List.replicate 104 1]=((wrs (nwS c8) 2 [3,1] [List.replicate 104 3,List.replicate 104 1],()),(zY5 2 2 [3,1] [List.replicate 104 3,List.replicate 104 1],0)):=by
  unfold wrD
  rw [if_pos hok,if_pos wr8ok]
 rw [ew]
 refine zQ1 wQj ?_
 refine zQb (Qf _) ?_
 refine zQ1 (zYs c8 (wrs (nwS c8) 2 [3,1] [List.replicate 104 3,List.replicate 104 1]) 2 [1,2] e1 e2 (by simp)) ?_
 have er : rdD c8 (wrs (nwS c8) 2 [3,1] [List.replicate 104 3,List.replicate 104 1]) 2 [1,2]=([List.replicate 104 1,List.replicate 104 0],(zY5 1 2 [1,2] [List.replicate 104 1,List.replicate 104 0],0)):=by
  unfold rdD
  rw [if_pos hok2,wr8]
  rw [if_pos ⟨⟨by decide,by decide⟩,fun x hx=>by
   show 1≤x∧x≤3
   simp at hx; omega⟩]
  rfl
 rw [er]
 refine zQs rfl ?_
 rw [nw8]
 refine zQs rfl (zQb ⟨by decide,by decide⟩ (zQf (y:=List.replicate 15 (List.replicate 96 0)) rfl ?_))
 refine zQs (by simp [Z.zQ8,Z.ieq,Z.ofN,Z.len]) ?_
 refine zQb ⟨by decide,by decide⟩ (zQf (y:=List.replicate 15 (List.replicate 96 0)) rfl ?_)
 refine zQb ⟨by decide,by simp [Z.len]⟩ (zQf (y:=List.replicate 96 0) rfl ?_)
 refine zQs (by simp [Z.zQ8,Z.ieq,Z.ofN,Z.len]) ?_
 refine zQs rfl (zQs rfl (zQs rfl (zQs rfl ?_)))
 refine zQb (Z.zZ0.2 ⟨by omega,Int.le_refl _,by omega,by omega⟩) (zQ1 (wKy 1) ?_)
 refine zQb (by show 0+(104 : Int).toNat≤(List.replicate ((104 : Int).toNat) (0 : Int)).length; simp) ?_
 refine zQ1 (zY1 _ _ (by simp)) ?_
 rw [decide_eq_true ?_]
 ·rfl
 ·rfl
theorem wQl (c : CfgT) (d : List Lev) (level : Int) (at_ : List Int) (all : List Byt) (m n : Int) : zKv (c,((d,()),(level,(at_,(all,(m,n))))))=some true:=by
 unfold zKv
 dsimp only
 refine zQ1 uWj ?_
 refine xW4 (fun j=>j=true∨(j=false∧yWy d=false∧at_.length≤20∧all.length≤20)) (fun j hj=>?_) (fun k hk=>?_)
 ·rcases hj with rfl | ⟨rfl, gd, ha, hb⟩
  ·exact zQs rfl rfl
  refine zQt rfl ?_
  obtain ⟨i1,i2⟩:=vXm gd
  refine zQ1 (yW0 c d level at_ all i1 i2 (by omega) (by omega)) ?_
  unfold wrD
  by_cases hok : zY6 c d
  ·rw [if_pos hok]
   by_cases hw : wrOk d level at_ all
   ·rw [if_pos hw]
    refine zQt rfl ?_
    have hd:=wQ4 hok hw
    have hok2:=xZd hd hok
    obtain ⟨e1,e2⟩:=vY6 hok2
    refine zQb (Qf _) (zQ1 (zYs c (wrs d level at_ all) m [n] e1 e2 (by simp)) ?_)
    refine zQb (Qf _) (zQ1 (zYs c d m [n] i1 i2 (by simp)) ?_)
    have hpl:=xYv hd m [n]
    have hcode : (rdD c (wrs d level at_ all) m [n]).2.2=(rdD c d m [n]).2.2:=by
     unfold rdD
     rw [if_pos hok,if_pos hok2]
     by_cases hp : plD d m [n]
     ·rw [if_pos hp,if_pos (hpl.1 hp)]
     ·rw [if_neg hp,if_neg fun h=>hp (hpl.2 h)]
    refine xW4 (fun j=>j=false) (fun j hj=>?_) (fun k hk=>?_)
    ·subst hj
     refine zQt rfl ?_
     have hlen:=hw.2.1
     refine zQ4 (fun (s : List Byt×Int)=>∃ q : Nat,q≤at_.length∧s=((rdD c (wrs d level (at_.take q) (all.take q)) m [n]).1,(q : Int))) (fun s=>at_.length - s.2.toNat) ?_ ⟨0,Jm _,rfl⟩ (zKu _ _ (by omega))
     rintro s k ⟨q,hq,rfl⟩ hk
     dsimp only
     obtain ⟨hdq,hst⟩:=xXl hok hw q hq
     by_cases hlt : q < at_.length
     ·have hlt' : q < all.length := by omega
      refine zQs (decide_eq_true (by simp only [Z.ofN,Z.len]; omega)) ?_
      have hdq1:=(xXl hok hw (q+1) hlt).1
      have hoq:=xZd hdq hok
      have hoq1:=xZd hdq1 hok
      have hplq:=xYv hdq m [n]
      have hplq1:=xYv hdq1 m [n]
      have next : (rdD c (wrs d level (at_.take (q+1)) (all.take (q+1))) m [n]).1=if m=level∧n=at_[q] then [all[q]] else (rdD c (wrs d level (at_.take q) (all.take q)) m [n]).1:=by
       unfold rdD
       rw [if_pos hoq,if_pos hoq1]
       by_cases hp : plD d m [n]
       ·rw [if_pos (hplq.1 hp), if_pos (hplq1.1 hp)]
        have h1:=hst hlt hlt' m n hp.1.1 (hp.2 n (by simp)).1
        show [bkt _ m n]=if _ then [all[q]] else [bkt _ m n]
        rw [h1]
        by_cases hh : m=level∧n=at_[q]
        ·rw [if_pos hh,if_pos hh]
        ·rw [if_neg hh,if_neg hh]
       ·rw [if_neg fun h => hp (hplq.2 h), if_neg fun h => hp (hplq1.2 h)]
        rw [if_neg]
        rintro ⟨rfl,rfl⟩
        exact hp ⟨hw.1.1,fun x hx=>by
         rw [List.mem_singleton] at hx
         subst hx
         exact hw.1.2 _ (Jb hlt)⟩
      have dec : at_.length - ((q+1 : Nat) : Int).toNat < at_.length - ((q : Int)).toNat:=by omega
      refine xW4 (fun j=>j=decide (m=level∧n=at_[q])) (fun j hj=>?_) (fun k' hk'=>?_)
      ·subst hj
       by_cases hh : m=level∧n=at_[q]
       ·refine zQs (decide_eq_true hh) ?_
        refine zQb (ixND hlt') (zQf (zZa all hlt' _) ?_)
        refine zQb (Qf _) (zQf (zXx (by omega)) ?_)
        rw [if_pos hh] at next
        exact hk _ ⟨q+1,hlt,by rw [next]; rfl⟩ dec
       ·refine zQt (decide_eq_false hh) ?_
        refine zQf (zXx (by omega)) ?_
        rw [if_neg hh] at next
        exact hk _ ⟨q+1,hlt,by rw [next]⟩ dec
      ·by_cases hl : level = m
       ·refine zQs (decide_eq_true hl) ?_
        refine zQb (ixND hlt) (zQf (zZa at_ hlt _) ?_)
        refine hk' _ ?_
        by_cases hx : at_[q]=n
        ·rw [decide_eq_true ⟨hl.symm, hx.symm⟩]
         simp [Z.zQ8,Z.ieq,hx]
        ·rw [decide_eq_false fun h => hx h.2.symm]
         simp [Z.zQ8,Z.ieq,hx]
       ·refine zQt (decide_eq_false hl) ?_
        exact hk' _ (by rw [decide_eq_false fun h=>hl h.1.symm])
     ·refine zQt (decide_eq_false (by simp only [Z.ofN, Z.len]; omega)) ?_
      rw [Qi (by omega),Qi (by omega)]
      refine xW4 (fun j=>j=true) (fun j hj=>by rw [hj]) (fun k' hk'=>?_)
      refine zQs rfl ?_
      refine zQ1 (zY1 _ _ ?_) (hk' _ (by rw [decide_eq_true rfl]; rfl))
      have:=rd_len c (wrs d level at_ all) m [n]
      rw [List.length_singleton] at this
      omega
    ·refine zQt (by rw [hcode]; simp [Z.ine]) ?_
     refine zQ1 (zJl c (wrs d level at_ all) e1 e2) ?_
     rw [vQe hok2]
     refine zQt rfl (hk _ ?_)
     have hs:=wJg 2 level at_ all hw.2.1
     show Z.zQ8 false true (Z.ine ((zY5 2 level at_ all).length : Int) (at_.length : Int))=false
     rw [hs]
     simp [Z.zQ8,Z.ine]
   ·rw [if_neg hw]
    refine zQs rfl ?_
    refine xW4 (fun j=>j=true) (fun j hj=>by rw [hj]) (fun k hk=>?_)
    exact zQs rfl (zQs rfl (hk _ rfl))
  ·rw [if_neg hok]
   refine zQs rfl ?_
   refine xW4 (fun j=>j=true) (fun j hj=>by rw [hj]) (fun k hk=>?_)
   exact zQs rfl (zQs rfl (hk _ rfl))
 ·refine zQ1 (xQu d) ?_
  cases gd : yWy d with
  | true=>exact zQs rfl (hk _ (.inl rfl))
  | false =>
   refine zQt rfl ?_
   by_cases ha : 20 < at_.length
   ·exact zQs (by simp only [Z.zQ8,Z.igt,Z.ofN,Z.len]; simp; omega) (hk _ (.inl rfl))
   ·refine zQt (by simp only [Z.zQ8, Z.igt, Z.ofN, Z.len]; simp; omega) ?_
    obtain ⟨g,hg,hgl⟩:=uQo all
    refine zQ1 hg ?_
    cases g with
    | true=>exact zQs rfl (hk _ (.inl rfl))
    | false=>exact zQt rfl (hk _ (.inr ⟨rfl,gd,by omega,hgl rfl⟩))
theorem yX8 (d : Els zZt.args) (hf : Fits zZt.args d) : zKv d=some true:=by
 obtain ⟨c,⟨d,_⟩,level,at_,all,m,n⟩:=d
 exact wQl c d level at_ all m n
end Go.Proofs.Ytnbmjkbbppcbcaa
