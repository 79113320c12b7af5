/- Devices: the document's, and what is written over. -/
import Derived.Test.YtghnechjgchajaaDevE
namespace Go.Proofs.Ytghnechjgchajaa
open Go.Eng
set_option linter.unusedVariables false
set_option linter.unusedSimpArgs false
section
variable {d d':List Lev}
theorem vXp(q:Nat)(L:Lev){k:Nat}(h:k<L.length):Z.xlen (bkD q L k)=L[k].length:=by
 have o1:=zJn L h;by_cases h0:L.flatten.length=0
 ·rw[bkD_e h0]
  have:=yZ8 L h;show 0=_;omega
 ·rw[xZj h0]
  show offD L (k+1)-offD L k=_;omega
theorem xY4(L:Lev){k:Nat}(h:k<L.length){n:Nat}(hn:n<L[k].length)(x:Int):L.flatten.set (offD L k+n) x=(L.set k (L[k].set n x)).flatten:=by
 have e:L.flatten=(L.take k).flatten++(L[k]++(L.drop (k+1)).flatten):=by
  have h1:L=L.take k++(L[k]::L.drop (k+1)):=by rw[←Jz h,Qr]
  conv=>lhs;rw[h1]
  rw[List.flatten_append,Jv]
 have e2:(L.set k (L[k].set n x)).flatten=(L.take k).flatten++(L[k].set n x++(L.drop (k+1)).flatten):=by
  rw[List.set_eq_take_append_cons_drop,if_pos h,List.flatten_append,Jv]
 rw[e,e2];unfold offD;rw[List.set_append_right _ _ (by omega),Jn,List.set_append_left _ _ hn]
theorem uZh(hd:dims d=dims d'){i k n:Nat}(hi:i<d.length)(hk:k<d[i].length)(hn:n<d[i][k].length):
  Z.Ix (n:Int) (Z.xlen (bkD i d[i] k))∧Z.XPt (qD d') (bkD i d[i] k) (Z.toN (n:Int))∧∀x,∃d'',Z.xset (qD d') (bkD i d[i] k) (Z.toN (n:Int)) x=qD d''∧dims d=dims d'':=by
 have hln:=zJg hd;have hi':i<d'.length:=by omega
 have hL:=zKc hd hi hi';have hk':k<d'[i].length:=by have:=yWn hL;omega
 have he:=yKd hL hk hk';have hq:i<(qD d').length:=by simp[qD,hi']
 have o1:=zJn d'[i] hk';have o2:=yK2 d'[i] (k+1);have h0:d'[i].flatten.length≠0:=by omega
 refine⟨⟨by omega,by rw[vXp i d[i] hk];show(n:Int).toNat<_;omega⟩, ?_,fun x=>?_⟩
 ·rw[xWr i hL k,xZj h0]
  simp only[Z.XPt,MixE.xpt,yJq hi',decide_eq_true hq];rw[decide_eq_true (show offD d'[i] k+(offD d'[i] (k+1)-offD d'[i] k)≤d'[i].flatten.length by omega),decide_eq_true (show Z.toN (n:Int)<offD d'[i] (k+1)-offD d'[i] k by show n<_;omega),beq_self_eq_true];rfl
 ·rw[xWr i hL k,xZj h0]
  refine⟨d'.set i (d'[i].set k (d'[i][k].set n x)), ?_,yYr hd hi' hk' _ (by simp)⟩
  show(qD d').set i (((qD d').getD i []).set (offD d'[i] k+n) x)=_;rw[yJq hi',xY4 d'[i] hk' (by omega) x]
  unfold qD;rw[Q3]
end
end Go.Proofs.Ytghnechjgchajaa
