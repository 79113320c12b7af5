/- Package slot. -/
import Derived.Test.YtfeemnbhcafofaaDoorGeo
import Derived.Test.YtfeemnbhcafofaaDoorTake
import Derived.Test.YtfeemnbhcafofaaDoorMid
import Derived.Test.YtfeemnbhcafofaaDoorSame
namespace Go.Proofs.YtfeemnbhcafofaaDoor
open Go.Eng
set_option linter.unusedVariables false
set_option linter.unusedSimpArgs false
def wZ1 (B S H : Int) : Bool:=decide (1≤B∧B≤64∧1≤S∧S≤32∧may H=true∧B≤2 ^ H.toNat)
def zYs (B S H W : Int) : Int×Int :=
 if wZ1 B S H=true then (if W=1 * (8+S)+64 then (1,0) else if W=2 * (8+S)+64 then (2,0) else if W=3 * (8+S)+64 then (3,0) else if W=4 * (8+S)+64 then (4,0) else (0,8)) else (0,8)
theorem yKj {B S H : Int} : wZ1 B S H=true↔1≤B∧B≤64∧1≤S∧S≤32∧may H=true∧B≤2 ^ H.toNat:=by unfold wZ1; exact decide_eq_true_iff
theorem yZu (B S H W : Int) (h : 0≤S) (h2 : S≤1000) : yWr (B,S,H,W,())=some (8+S):=by
 unfold yWr
 simp only
 rw [Z.wrap_i64 (by simp only [Z.add_eq]; omega) (by simp only [Z.add_eq]; omega)]
theorem zJs (B S H W : Int) : zJp (B,S,H,W,())=some (zYs B S H W):=by
 unfold zJp zYs
 simp only
 have bad : ¬ (1≤B∧B≤64∧1≤S∧S≤32∧may H=true∧B≤2 ^ H.toNat)→(if wZ1 B S H=true then (if W=1 * (8+S)+64 then ((1,0) : Int×Int) else if W=2 * (8+S)+64 then (2,0) else if W=3 * (8+S)+64 then (3,0) else if W=4 * (8+S)+64 then (4,0) else (0,8)) else (0,8))=(0,8) :=
  fun h=>if_neg (fun hh=>h (yKj.1 hh))
 have pf : ∀ b : Bool,Z.zQr false true b=b:=fun b=>by simp [Z.zQr]
 by_cases h1 : B < 1
 ·rw [show Z.ilt B 1=true by simp [Z.ilt,h1],cond_true,bad (by omega)]
 rw [show Z.ilt B 1=false by simp [Z.ilt,h1],cond_false,pf]
 by_cases h2 : B > 64
 ·rw [show Z.igt B 64=true by simp [Z.igt,h2],cond_true,bad (by omega)]
 rw [show Z.igt B 64=false by simp [Z.igt]; omega,cond_false,pf]
 by_cases h3 : S < 1
 ·rw [show Z.ilt S 1=true by simp [Z.ilt,h3],cond_true,bad (by omega)]
 rw [show Z.ilt S 1=false by simp [Z.ilt,h3],cond_false,pf]
 by_cases h4 : S > 32
 ·rw [show Z.igt S 32=true by simp [Z.igt,h4],cond_true,bad (by omega)]
 rw [show Z.igt S 32=false by simp [Z.igt]; omega,cond_false,zZ5,Z.bind_some]
 cases hm : may H with
 | false =>
  rw [bad (by rw [hm]; simp)]; rfl
 | true =>
  have z0 : Z.ine 0 0=false:=rfl
  rw [if_pos rfl]
  simp only
  rw [z0,cond_false,pf]
  by_cases h5 : 2 ^ H.toNat < B
  ·rw [show Z.ilt (2 ^ H.toNat) B=true by simp [Z.ilt,h5],cond_true,bad (by omega)]
  rw [show Z.ilt (2 ^ H.toNat) B=false by simp [Z.ilt]; omega,cond_false,if_pos (yKj.2 ⟨by omega,by omega,by omega,by omega,hm,by omega⟩)]
  refine zQn (fun (s : Int)=>1≤s∧s≤5∧∀ j : Int,1≤j→j < s→W≠j * (8+S)+64) (fun s=>(5 - s).toNat) ?_ ⟨by omega,by omega,fun j h1 h2=>by omega⟩ (by decide)
  rintro s k ⟨s1,s2,s3⟩ hk
  by_cases hs : s≤4
  ·have e1 : Z.ile s 4 = true := by simp [Z.ile, hs]
   have hmul : s * (8+S)≤4 * 40:=Int.mul_le_mul hs (by omega) (by omega) (by omega)
   have hmul0 : 0≤s * (8+S):=Int.mul_nonneg (by omega) (by omega)
   have w1 : Z.wrap .i64 (Z.mul s (8+S))=s * (8+S):=Z.wrap_i64 (by show _≤s * (8+S); omega) (by show s * (8+S)≤_; omega)
   have w2 : Z.wrap .i64 (Z.add (s * (8+S)) 64)=s * (8+S)+64:=Z.wrap_i64 (by show _≤s * (8+S)+64; omega) (by show s * (8+S)+64≤_; omega)
   have w3 : Z.wrap .i64 (Z.add s 1)=s+1:=Z.wrap_i64 (by show _≤s+1; omega) (by show s+1≤_; omega)
   rw [e1,cond_true,yZu _ _ _ _ (by omega) (by omega),Z.bind_some,w1,Z.zQ9,w2,Z.zQ9]
   by_cases hW : W=s * (8+S)+64
   ·rw [show Z.ieq W (s * (8 + S) + 64) = true by simp [Z.ieq, hW], cond_true]
    have hc : s=1∨s=2∨s=3∨s=4:=by omega
    rcases hc with rfl | rfl | rfl | rfl
    ·rw [if_pos hW]
    ·rw [if_neg (s3 1 (by omega) (by omega)),if_pos hW]
    ·rw [if_neg (s3 1 (by omega) (by omega)),if_neg (s3 2 (by omega) (by omega)),if_pos hW]
    ·rw [if_neg (s3 1 (by omega) (by omega)),if_neg (s3 2 (by omega) (by omega)),if_neg (s3 3 (by omega) (by omega)),if_pos hW]
   ·rw [show Z.ieq W (s * (8 + S) + 64) = false by simp [Z.ieq, hW], cond_false, w3, Z.zQ9]
    refine hk _ ⟨by omega,by omega,fun j j1 j2=>?_⟩ (by omega)
    by_cases hj : j=s
    ·subst hj; exact hW
    ·exact s3 j j1 (by omega)
  ·have e1 : Z.ile s 4 = false := by simp [Z.ile]; omega
   rw [e1,cond_false,if_neg (s3 1 (by omega) (by omega)),if_neg (s3 2 (by omega) (by omega)),if_neg (s3 3 (by omega) (by omega)),if_neg (s3 4 (by omega) (by omega))]
theorem wX3 (B S H W : Int) : (zYs B S H W).2=0∨zYs B S H W=(0,8):=by
 unfold zYs
 split
 ·split
  ·exact .inl rfl
  ·split
   ·exact .inl rfl
   ·split
    ·exact .inl rfl
    ·split
     ·exact .inl rfl
     ·exact .inr rfl
 ·exact .inr rfl
theorem xXq {B S H W : Int} (h : (zYs B S H W).2=0) : wZ1 B S H=true:=by
 unfold zYs at h
 split at h
 ·assumption
 ·simp at h
def yYf (B S H i f : Int) (d : List Int) : Bool:=decide (0≤i∧i < B∧0≤f∧f < 2 ^ H.toNat∧(d.length : Int)=S)
def yXt (B S H W i f : Int) (d : List Int) : Int:=if (zYs B S H W).2=0 then (if yYf B S H i f d=true then 0 else 8) else 8
theorem yWs (B S H W i f : Int) (d : List Int) : zYu ((B,S,H,W,()),(i,f,d,()))=some (yXt B S H W i f d):=by
 unfold zYu yXt
 simp only
 rw [zJs,Z.bind_some]
 rcases wX3 B S H W with h0 | h8
 ·obtain ⟨l1, l2, l3, l4, l5, l6⟩ := yKj.1 (xXq h0)
  have z0 : Z.ine 0 0=false:=rfl
  have pf : ∀ b : Bool,Z.zQr false true b=b:=fun b=>by simp [Z.zQr]
  rw [h0,z0,cond_false,zZ5,Z.bind_some,l5,if_pos rfl,if_pos rfl]
  simp only
  rw [pf,pf,pf,pf]
  have bad : ¬ (0≤i∧i < B∧0≤f∧f < 2 ^ H.toNat∧(d.length : Int)=S)→(if yYf B S H i f d=true then (0 : Int) else 8)=8:=fun h=>if_neg (fun hh=>h (of_decide_eq_true hh))
  by_cases c1 : i < 0
  ·rw [show Z.ilt i 0=true by simp [Z.ilt,c1],cond_true,bad (by omega)]
  rw [show Z.ilt i 0=false by simp [Z.ilt,c1],cond_false]
  by_cases c2 : i ≥ B
  ·rw [show Z.ige i B=true by simp [Z.ige,c2],cond_true,bad (by omega)]
  rw [show Z.ige i B=false by simp [Z.ige]; omega,cond_false]
  by_cases c3 : f < 0
  ·rw [show Z.ilt f 0=true by simp [Z.ilt,c3],cond_true,bad (by omega)]
  rw [show Z.ilt f 0=false by simp [Z.ilt,c3],cond_false]
  by_cases c4 : f ≥ 2 ^ H.toNat
  ·rw [show Z.ige f (2 ^ H.toNat)=true by simp [Z.ige,c4],cond_true,bad (by omega)]
  rw [show Z.ige f (2 ^ H.toNat)=false by simp [Z.ige]; omega,cond_false]
  by_cases c5 : (d.length : Int)=S
  ·rw [show Z.ine (Z.ofN (Z.len d)) S=false by simp [Z.ine,c5],cond_false,if_pos (show yYf B S H i f d=true from decide_eq_true ⟨by omega,by omega,by omega,by omega,c5⟩)]
  ·rw [show Z.ine (Z.ofN (Z.len d)) S=true by simp [Z.ine,c5],cond_true,bad (fun h=>c5 h.2.2.2.2)]
 ·have z8 : Z.ine 8 0 = true := rfl
  rw [h8]
  simp only
  rw [z8,cond_true]; rfl
theorem uQk {B S H W i f : Int} {d : List Int} (h : yXt B S H W i f d=0) : (zYs B S H W).2=0∧0≤i∧i < B∧0≤f∧f < 2 ^ H.toNat∧(d.length : Int)=S:=by
 unfold yXt at h
 split at h
 ·rename_i h0
  split at h
  ·rename_i h1; exact ⟨h0,of_decide_eq_true h1⟩
  ·simp at h
 ·simp at h
theorem vJi (B S H W i f : Int) (d : List Int) : yXt B S H W i f d=0∨yXt B S H W i f d=8:=by
 unfold yXt; split
 ·split
  ·exact .inl rfl
  ·exact .inr rfl
 ·exact .inr rfl
theorem xXr (B S H W : Int) : yX4 (B,S,H,W,())=some [4,4,S]:=by
 unfold yX4
 have c1 : Z.EqN (Z.len (Z.rep 3 (0 : Int))) (Z.len ((4 : Int)::(4::(S::([] : List Int))))):=rfl
 have c2 : Z.EqN (Z.len ((4 : Int)::(4::(S::([] : List Int))))) 3:=rfl
 simp only
 rfl
def wQt (i f : Int) (d : List Int) : List Int:=digs (i+1) 4++digs f 4++d
def vXs (B S H W i f : Int) (d : List Int) : List Int×Int:=if yXt B S H W i f d=0 then (wQt i f d,0) else ([],8)
theorem uZc {H : Int} (h : may H=true) : (2 : Int) ^ H.toNat≤64:=by rcases zY9 h with rfl | rfl | rfl | rfl | rfl | rfl<;>decide
theorem vZv {a b : Int} (a0 : 0≤a) (a1 : a≤100) (b0 : 0≤b) (b1 : b≤100) : putS [a,b] [4,4]=(digs a 4++digs b 4,0):=by
 have ok : okS 1 8 [4,4]=true:=by decide
 have h4 : (256 : Int) ^ (4 : Int).toNat=4294967296:=by decide
 have hf : yQ8 (([a,b] : List Int).zip [4,4])=true:=by
  simp only [List.zip_cons_cons,List.zip_nil_right,yQ8,Jg,K9,K0,Qb,decide_eq_true_eq,h4]
  omega
 unfold putS
 rw [if_neg (by rw [ok]; simp),if_neg (by simp),if_pos hf]
 simp [putB]
theorem xXs (B S H W i f : Int) (d : List Int) : zJo ((B,S,H,W,()),(i,f,d,()))=some (vXs B S H W i f d):=by
 unfold zJo vXs
 simp only
 rw [yWs,Z.bind_some]
 rcases vJi B S H W i f d with h0 | h8
 ·obtain ⟨hs, i0, i1, f0, f1, hd⟩ := uQk h0
  obtain ⟨l1,l2,l3,l4,l5,l6⟩:=yKj.1 (xXq hs)
  have hp:=uZc l5
  have z0 : Z.ine 0 0=false:=rfl
  have w1 : Z.wrap .u64 i=i:=Z.zZn (by omega) (by omega)
  have w2 : Z.wrap .u64 (Z.add i 1)=i+1:=Z.zZn (by show 0≤i+1; omega) (by show i+1 < _; omega)
  have w3 : Z.wrap .u64 f=f:=Z.zZn (by omega) (by omega)
  have n3 : Z.norm 3 [4,4,S] 0=[4,4,S]:=rfl
  have s1 : Z.seg ((i+1)::(f::([] : List Int))) 0 2=[i+1,f]:=rfl
  have s2 : Z.seg ([4,4,S] : List Int) 0 (Z.subN (Z.toN 2) 0)=[4,4]:=rfl
  have c1 : Z.EqN (Z.len (Z.rep 3 (0 : Nat))) 3:=rfl
  have c2 : Z.Le 3 (Z.len ([4,4,S] : List Int)):=Qe _
  have c3 : Z.Bd 2 3:=⟨by omega,by omega⟩
  have c4 : Z.Le (Z.addN 0 2) (Z.len ((i+1)::(f::([] : List Int)))):=Qe _
  have c5 : Z.Le (Z.addN 0 (Z.subN (Z.toN 2) 0)) (Z.len ([4,4,S] : List Int)):=by show 2≤3; omega
  have hl : (digs (i+1) 4++digs f 4).length=8:=by rw [Qt,zYh,zYh]
  have c6 : ¬ Z.EqN (Z.len (digs (i+1) 4++digs f 4)) 0:=by show ¬ ((digs (i+1) 4++digs f 4).length=0); omega
  have c7 : Z.Le (Z.addN 0 (Z.len (digs (i+1) 4++digs f 4))) (Z.len (digs (i+1) 4++digs f 4)):=by show 0+(digs (i+1) 4++digs f 4).length≤(digs (i+1) 4++digs f 4).length; omega
  have c8 : ¬ Z.Big (Z.len (digs (i+1) 4++digs f 4)) (Z.len d) 1:=by show ¬ (2 ^ 44 < ((digs (i+1) 4++digs f 4).length+d.length) * (1+1)); omega
  rw [h0, z0, cond_false, xXr, Z.bind_some, if_pos c1, w1, Z.zQ9, w2, Z.zQ9, w3, Z.zQ9, n3, if_pos c2, if_pos c3, if_pos (show Z.Lt 0 3 by decide), if_pos c4, if_pos c5, s1, s2,
   xQ6 _ _ (by simp) (by simp) (fun m hm=>by simp at hm; omega),Z.bind_some,vZv (by omega) (by omega) (by omega) (by omega)]
  simp only
  rw [if_neg c6,if_pos c7,wK7 _ (Qe _),if_neg c8,Z.zQ9]
  rfl
 ·have z8 : Z.ine 8 0 = true := rfl
  rw [h8,z8,cond_true]; rfl
def uZm (B S H W : Int) : List Int×Int:=if (zYs B S H W).2=0 then (List.replicate (8+S).toNat 0,0) else ([],8)
theorem xK5 (B S H W : Int) : zYt (B,S,H,W,())=some (uZm B S H W):=by
 unfold zYt uZm
 simp only
 rw [zJs,Z.bind_some]
 rcases wX3 B S H W with h0 | h8
 ·obtain ⟨l1, l2, l3, l4, l5, l6⟩ := yKj.1 (xXq h0)
  have z0 : Z.ine 0 0=false:=rfl
  have c1 : Z.Le (Z.addN 0 (Z.toN (8+S))) (Z.len (Z.rep (α:=Int) (Z.toN (8+S)) 0)):=by
   show 0+(8+S).toNat≤(List.replicate (8+S).toNat (0 : Int)).length; simp
  rw [h0,z0,cond_false,yZu _ _ _ _ (by omega) (by omega),Z.bind_some,if_pos (Z.yYg.2 ⟨by omega,Int.le_refl _,by omega,by omega⟩ : Z.MkOk (8+S) (8+S) 1),if_pos c1,if_pos rfl]
  rw [wK7 _ (by show (List.replicate (8+S).toNat (0 : Int)).length≤(8+S).toNat; simp)]
 ·rw [h8]; rfl
abbrev Blk : Type:=Int×(Int×(List Int×Unit))
def noB : Blk:=(0,0,[],())
end Go.Proofs.YtfeemnbhcafofaaDoor
