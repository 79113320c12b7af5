/- Numbers put into bytes. -/
import Derived.Test.YtfeemnbhcafofaaDoorNum
namespace Go.Proofs.YtfeemnbhcafofaaDoor
open Go.Eng
set_option linter.unusedVariables false
set_option linter.unusedSimpArgs false
def putB (zs : List (Int×Int)) : List Int:=zs.flatMap fun p=>digs p.1 p.2.toNat
def yQ8 (zs : List (Int×Int)) : Bool:=zs.all fun p=>decide (p.1 / 256 ^ p.2.toNat=0)
def putS (l sizes : List Int) : List Int×Int :=
 if okS 1 8 sizes=false then ([],2) else if l.length≠sizes.length then ([],2) else if yQ8 (l.zip sizes) then (putB (l.zip sizes),0) else ([],4)
theorem wY4 {zs : List (Int×Int)} (h : ∀ p∈zs,p.2≤8) : (putB zs).length≤8 * zs.length:=by
 induction zs with
 | nil=>simp [putB]
 | cons p zs ih =>
  have h1:=h p (by simp)
  have h2:=ih fun q hq=>h q (by simp [hq])
  simp only [putB,Ql,Qt,zYh,Jh] at h2 ⊢
  omega
theorem wZb {zs : List (Int×Int)} {i : Nat} (h : i < zs.length) : putB (zs.take (i+1))=putB (zs.take i)++digs zs[i].1 zs[i].2.toNat:=by
 unfold putB
 rw [Jj h,Kb]; simp
theorem vQ1 {zs : List (Int×Int)} {i : Nat} (h : i < zs.length) (hb : ¬ zs[i].1 / 256 ^ zs[i].2.toNat=0) : yQ8 zs=false:=by
 unfold yQ8
 rw [List.all_eq_false]
 exact ⟨zs[i],Qv h,by simpa using hb⟩
theorem wKd {zs : List (Int×Int)} (h : ∀ p∈zs,p.1 / 256 ^ p.2.toNat=0) : yQ8 zs=true:=by
 unfold yQ8
 rw [Qk]
 intro p hp
 simpa using h p hp
theorem yJx {α : Type} {zs : List α} {i : Nat} (h : i < zs.length) {Q : α→Prop} (h1 : ∀ p∈zs.take i,Q p) (h2 : Q zs[i]) : ∀ p∈zs.take (i+1),Q p:=by
 intro p hp
 rw [Jj h,Qw] at hp
 rcases hp with hp | hp
 ·exact h1 p hp
 ·simp at hp; subst hp; exact h2
theorem xQ6 (l sizes : List Int) (hl : l.length < 9223372036854775807) (hs : sizes.length < 9223372036854775807) (hr : ∀ n∈l,0≤n∧n < 18446744073709551616) : yKi (l,sizes)=some (putS l sizes):=by
 unfold yKi putS
 simp only
 rw [yY0 sizes 1 8 (by omega) (by omega) hs,Z.bind_some]
 cases hok : okS 1 8 sizes with
 | false=>simp [Z.ine]
 | true =>
  obtain ⟨hlen,hall,hsum⟩:=uQ2 hok
  simp only [if_true,Z.ine,bne_self_eq_false,cond_false,Z.xZv,Z.len_eq,Bool.true_eq_false,if_false]
  by_cases he : l.length=sizes.length
  ·have e1 : ((l.length : Int) != (sizes.length : Int)) = false := by simp [he]
   rw [e1,cond_false]
   have hsum0 : 0≤sizes.sum:=by have:=yZ6 (l:=sizes) (fun s hs=>by have:=hall s hs; omega) 0; simpa using this
   rw [if_pos (show Z.MkOk 0 sizes.sum 1 from Z.yYg.2 ⟨by omega,hsum0,by omega,by omega⟩),if_pos (show Z.EqN (Z.toN 0) 0 from rfl),if_pos (show Z.EqN 0 (([] : List Int).length) from rfl)]
   have hzl : (l.zip sizes).length=sizes.length:=by simp [he]
   have hne : ¬ (l.length≠sizes.length):=by simp [he]
   rw [if_neg hne]
   refine zQn (fun s=>∃ i : Nat,s.2=(i : Int)∧i≤sizes.length∧s.1=putB ((l.zip sizes).take i)∧∀ p∈(l.zip sizes).take i,p.1 / 256 ^ p.2.toNat=0) (fun s=>sizes.length - s.2.toNat) ?_ ⟨0,rfl,Q5 _,by simp [putB],by simp⟩ (by simp; omega)
   rintro ⟨so,si⟩ k ⟨i,rfl,hi,rfl,hfit⟩ hk
   simp only [Z.xQa]
   by_cases hlt : i < sizes.length
   ·have hlt' : i < l.length := by omega
    have hz : i < (l.zip sizes).length:=by omega
    have hzi : (l.zip sizes)[i]=(l[i],sizes[i]):=by simp
    simp only [hlt,decide_true,cond_true,if_pos ((Z.xWe i sizes.length).2 hlt),if_pos ((Z.xWe i l.length).2 hlt'),Z.zQ9,Z.xXj,Z.xKc sizes 0 hlt,Z.xKc l 0 hlt']
    have hsz:=hall sizes[i] (Qv hlt)
    have hn:=hr l[i] (Qv hlt')
    rw [wWn _ _ hn.1 hn.2 hsz.1 hsz.2,Z.bind_some]
    by_cases hf : l[i] / 256 ^ sizes[i].toNat=0
    ·simp only [hf, decide_true, Z.yXw, Bool.not_true, cond_false]
     have hbase : (putB ((l.zip sizes).take i)).length≤512:=by
      have := wY4 (zs := (l.zip sizes).take i) (by
       intro p hp
       have:=J1 hp
       exact (hall p.2 (List.of_mem_zip this).2).2)
      rw [Jy] at this
      omega
     refine zQn (fun s=>∃ j : Nat,s.2=(j : Int)∧(j : Int)≤sizes[i]∧s.1=putB ((l.zip sizes).take i)++digs l[i] j) (fun s=>(sizes[i] - s.2).toNat) ?_ ⟨0,rfl,by omega,by simp [digs]⟩ (by simp; omega)
     rintro ⟨to,tj⟩ k2 ⟨j,rfl,hj,rfl⟩ hk2
     simp only [Z.ilt]
     by_cases hjl : (j : Int) < sizes[i]
     ·simp only [hjl, decide_true, cond_true, Z.mul_eq, Z.zQ9]
      rw [Z.wrap_i64 (by omega) (by omega)]
      have hng : ¬ Z.Neg (8 * (j : Int)):=by show ¬ (8 * (j : Int) < 0); omega
      rw [if_neg hng]
      have hsh : Z.shr .u64 l[i] (8 * (j : Int))=l[i] / 256 ^ j:=by
       have e2 : min (8 * (j : Int)).toNat (IntKind.bits .u64)=8 * j:=by simp only [IntKind.bits]; omega
       simp only [Z.shr]
       rw [e2,pow8,Int.fdiv_eq_ediv_of_nonneg _ (Int.pow_nonneg (by omega))]
      rw [hsh,Z.wrap_u8,if_pos (show Z.Le (Z.addN 0 1) ([l[i] / 256 ^ j % 256].length) from Qe _)]
      have hseg : Z.seg [l[i] / 256 ^ j % 256] 0 1=[l[i] / 256 ^ j % 256]:=rfl
      rw [hseg]
      have hbig : ¬ Z.Big ((putB ((l.zip sizes).take i)++digs l[i] j).length) ([l[i] / 256 ^ j % 256].length) 1:=by
       show ¬ (2 ^ 44 < ((putB ((l.zip sizes).take i)++digs l[i] j).length+1) * (1+1))
       rw [Qt,zYh]; omega
      rw [if_neg hbig]
      simp only [Z.EqN,if_true,Z.wKr]
      rw [Z.zXq (by omega)]
      refine hk2 _ ⟨j+1,rfl,by omega, ?_⟩ (by simp; omega)
      simp [wKf]
     ·have ej : j = sizes[i].toNat := by omega
      simp only [hjl,decide_false,cond_false,Z.zQ9]
      rw [Z.zXq (by omega)]
      refine hk _ ⟨i+1,rfl,hlt, ?_, ?_⟩ (by simp; omega)
      ·rw [wZb hz,hzi,ej]
      ·exact yJx hz hfit (by rw [hzi]; exact hf)
    ·simp only [hf, decide_false, Z.yXw, Bool.not_false, cond_true]
     rw [vQ1 hz (by rw [hzi]; exact hf)]; rfl
   ·have e : (l.zip sizes).take i = l.zip sizes := Qp (by omega)
    rw [e] at hfit ⊢
    simp [hlt,wKd hfit]
  ·have e1 : ((l.length : Int) != (sizes.length : Int)) = true := by simp; omega
   simp [e1,he]
theorem xJc (l sizes : List Int) (hl : l.length < 9223372036854775807) (hs : sizes.length < 9223372036854775807) (hr : ∀ n∈l,0≤n∧n < 18446744073709551616) : yWz (l,sizes)=some (putS l sizes):=by
 unfold yWz putS
 simp only
 rw [yJc sizes hs,Z.bind_some]
 cases hok : okS 1 8 sizes with
 | false=>simp
 | true =>
  obtain ⟨hlen,hall,hsum⟩:=uQ2 hok
  simp only [Z.yXw,Bool.not_true,cond_false,Z.yW0,Z.ine,Z.xZv,Z.len_eq,Bool.true_eq_false,if_false]
  by_cases he : l.length=sizes.length
  ·have e1 : ((l.length : Int) != (sizes.length : Int)) = false := by simp [he]
   rw [e1,cond_false,if_pos (show Z.EqN 0 (([] : List Int).length) from rfl)]
   have hzl : (l.zip sizes).length=sizes.length:=by simp [he]
   have hne : ¬ (l.length≠sizes.length):=by simp [he]
   rw [if_neg hne]
   refine zQn (fun s=>∃ i : Nat,s.2=(i : Int)∧i≤sizes.length∧s.1=putB ((l.zip sizes).take i)∧∀ p∈(l.zip sizes).take i,p.1 / 256 ^ p.2.toNat=0) (fun s=>sizes.length - s.2.toNat) ?_ ⟨0,rfl,Q5 _,by simp [putB],by simp⟩ (by simp; omega)
   rintro ⟨so,si⟩ k ⟨i,rfl,hi,rfl,hfit⟩ hk
   simp only [Z.xQa]
   by_cases hlt' : i < l.length
   ·have hlt : i < sizes.length := by omega
    have hz : i < (l.zip sizes).length:=by omega
    have hzi : (l.zip sizes)[i]=(l[i],sizes[i]):=by simp
    simp only [hlt',decide_true,cond_true,if_pos ((Z.xWe i sizes.length).2 hlt),if_pos ((Z.xWe i l.length).2 hlt'),Z.zQ9,Z.xXj,Z.xKc sizes 0 hlt,Z.xKc l 0 hlt']
    have hsz:=hall sizes[i] (Qv hlt)
    have hn:=hr l[i] (Qv hlt')
    rw [zY3 _ _ hn.1 hn.2 hsz.1 hsz.2,Z.bind_some]
    by_cases hf : l[i] / 256 ^ sizes[i].toNat=0
    ·simp only [hf, decide_true, Z.yXw, Bool.not_true, cond_false]
     have hbase : (putB ((l.zip sizes).take i)).length≤512:=by
      have := wY4 (zs := (l.zip sizes).take i) (by
       intro p hp
       have:=J1 hp
       exact (hall p.2 (List.of_mem_zip this).2).2)
      rw [Jy] at this
      omega
     have hbig : ¬ Z.Big ((putB ((l.zip sizes).take i)).length) ((digs l[i] sizes[i].toNat).length) 1:=by
      show ¬ (2 ^ 44 < (_+_) * (1+1))
      rw [zYh]; omega
     rw [if_neg hbig]
     simp only [Z.EqN,if_true,Z.wKr]
     rw [Z.zXq (by omega)]
     refine hk _ ⟨i+1,rfl,hlt, ?_, ?_⟩ (by simp; omega)
     ·rw [wZb hz,hzi]
     ·exact yJx hz hfit (by rw [hzi]; exact hf)
    ·simp only [hf, decide_false, Z.yXw, Bool.not_false, cond_true]
     rw [vQ1 hz (by rw [hzi]; exact hf)]; rfl
   ·have e : (l.zip sizes).take i = l.zip sizes := Qp (by omega)
    rw [e] at hfit ⊢
    simp [hlt',wKd hfit]
  ·have e1 : ((l.length : Int) != (sizes.length : Int)) = true := by simp; omega
   simp [e1,he]
end Go.Proofs.YtfeemnbhcafofaaDoor
