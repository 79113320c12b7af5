/- Package entry, and the document's answer: cells' leaves, positions, their bytes. -/
import Derived.Test.YtfeemnbhcafofaaDoorGeo
import Derived.Test.YtfeemnbhcafofaaDoorNumput
namespace Go.Proofs.YtfeemnbhcafofaaDoor
open Go.Eng
set_option linter.unusedVariables false
set_option linter.unusedSimpArgs false
def chkS (h n : Int) : Int:=if may h then (if 0≤n∧n≤2 ^ h.toNat then 0 else 8) else 2
theorem yWj (h n : Int) (h0 : -9223372036854775808≤n) (h1 : n≤9223372036854775807) : zKl (h,n)=some (chkS h n):=by
 unfold zKl chkS
 rw [zZ5,Z.bind_some]
 cases hm : may h with
 | false=>simp [Z.ine]
 | true =>
  have e2 : Z.wrap .i64 (Z.add 1 (2 ^ h.toNat))=1+2 ^ h.toNat:=by rcases zY9 hm with rfl | rfl | rfl | rfl | rfl | rfl<;>rfl
  have e3 : Z.wrap .u64 (1+2 ^ h.toNat)=1+2 ^ h.toNat:=by rcases zY9 hm with rfl | rfl | rfl | rfl | rfl | rfl<;>rfl
  have hp : (0 : Int) < 2 ^ h.toNat∧(2 : Int) ^ h.toNat≤64:=by rcases zY9 hm with rfl | rfl | rfl | rfl | rfl | rfl<;>decide
  simp only [if_true,Z.ine,bne_self_eq_false,cond_false,Z.zQ9,e2,e3]
  by_cases hn : 0≤n
  ·have e4 : Z.wrap .u64 n = n := by rw [Z.wrap_u64]; omega
   rw [e4]
   by_cases hz : n=0
   ·subst hz
    have : (0 : Int)≤0∧(0 : Int)≤2 ^ h.toNat:=by omega
    simp [Z.ieq,this]
   ·simp only [Z.ieq, Z.ilt, Z.yW0]
    have e5 : (n == (0 : Int))=false:=by simp [hz]
    simp only [e5,cond_false]
    by_cases hlt : n < 1+2 ^ h.toNat
    ·have : 0 ≤ n ∧ n ≤ 2 ^ h.toNat := by omega
     simp [hlt,this]
    ·have : ¬ (0 ≤ n ∧ n ≤ 2 ^ h.toNat) := by omega
     rw [if_neg this]; simp [hlt]
  ·have e4 : Z.wrap .u64 n=n+18446744073709551616:=by
    show n % 18446744073709551616=_
    omega
   rw [e4]
   have : ¬ (0≤n∧n≤2 ^ h.toNat):=by omega
   rw [if_neg this]
   have e5 : (n+18446744073709551616 == (0 : Int))=false:=by simp; omega
   have e6 : decide (n+18446744073709551616 < 1+2 ^ h.toNat)=false:=by simp; omega
   simp only [Z.ieq,Z.ilt,Z.yW0,e5,e6,cond_false]
   rfl
theorem xK9 (h n : Int) (hm : may h=true) : yWw (h,n)=some (decide (0≤n∧n≤2 ^ h.toNat)):=by
 unfold yWw
 have hm':=yY1.1 hm
 by_cases hn : 0≤n
 ·have : Z.ige n 0 = true := by simp [Z.ige, hn]
  simp only [this,cond_true]
  rw [zJu h (by omega) (by omega),Z.bind_some]
  simp [Z.ile,hn]
 ·simp [Z.ige,hn]
theorem uKk {h n : Int} (hc : chkS h n=0) : 0≤n∧n≤64:=by
 unfold chkS at hc
 cases hm : may h with
 | false=>simp [hm] at hc
 | true =>
  simp only [hm,if_true] at hc
  have hp : (2 : Int) ^ h.toNat≤64:=by rcases zY9 hm with rfl | rfl | rfl | rfl | rfl | rfl<;>decide
  by_cases hb : 0≤n∧n≤2 ^ h.toNat
  ·omega
  ·simp [hb] at hc
def wrS (h n : Int) : List Int×Int:=if chkS h n=0 then (digs n 4,0) else ([],chkS h n)
theorem xWu (h n : Int) (h0 : -9223372036854775808≤n) (h1 : n≤9223372036854775807) : zJ3 (h,n)=some (wrS h n):=by
 unfold zJ3 wrS
 simp only
 rw [yWj h n h0 h1,Z.bind_some]
 by_cases hc : chkS h n=0
 ·obtain ⟨g1, g2⟩ := uKk hc
  have e4 : Z.wrap .u64 n=n:=by rw [Z.wrap_u64]; omega
  simp only [hc,Z.ine,bne_self_eq_false,cond_false,Z.zQ9,e4,if_true]
  rw [if_pos (show Z.Le (Z.addN 0 1) (Z.len (n::([] : List Int))) from Qe _),if_pos (show Z.Le (Z.addN 0 1) (Z.len ((4 : Int)::([] : List Int))) from Qe _)]
  have es : Z.seg (n::([] : List Int)) 0 1=[n]:=rfl
  have es2 : Z.seg ((4 : Int)::([] : List Int)) 0 1=[4]:=rfl
  rw [es,es2,xQ6 [n] [4] (by simp) (by simp) (fun m hm=>by simp at hm; omega),Z.bind_some]
  have ek : okS 1 8 [4]=true:=by decide
  have ef : yQ8 [(n,4)]=true:=by
   simp only [yQ8,Jg,K9,K0,decide_eq_true_eq]
   show n / 256 ^ 4=0
   omega
  simp [putS,ek,ef,putB]
 ·have e5 : (chkS h n != 0) = true := by simp [hc]
  simp only [Z.ine,e5,cond_true,hc,if_false]
theorem xWk (n : Int) (h0 : 0≤n) (h1 : n≤64) : yQo n=some (digs n 4):=by
 unfold yQo
 have e4 : Z.wrap .u64 n=n:=by rw [Z.wrap_u64]; omega
 simp only [Z.zQ9,e4]
 rw [zY3 n 4 h0 (by omega) (by omega) (by omega),Z.bind_some]
 rfl
end Go.Proofs.YtfeemnbhcafofaaDoor
