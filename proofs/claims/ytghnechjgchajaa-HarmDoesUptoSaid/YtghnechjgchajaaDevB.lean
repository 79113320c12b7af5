/- Devices: what their rows have, seen and written. -/
import Derived.Test.YtghnechjgchajaaDevA
namespace Go.Proofs.Ytghnechjgchajaa
open Go.Eng
set_option linter.unusedVariables false
set_option linter.unusedSimpArgs false
theorem zJ7{α β:Type}{f:α→Option β}:∀{l:List α} {r:List β},l.length=r.length→(∀(i:Nat) (h:i<l.length) (h':i<r.length),f l[i]=some r[i])→Z.mapO f l=some r
 |[],[],_,_=>rfl
 |[],_::_,h,_=>by simp at h
 |_::_,[],h,_=>by simp at h
 |x::l,y::r,h,hf=>by
  show List.mapM f (x::l)=_;rw[Ks];have h0:f x=some y:=hf 0 (by simp) (by simp)
  have ih:List.mapM f l=some r:=zJ7 (by simpa using h) fun i h1 h2=>hf (i+1) (by simp;omega) (by simp;omega)
  rw[h0,ih];rfl
def dimL(L:Lev):List Nat:=L.map List.length
def dims(d:List Lev):List (List Nat):=d.map dimL
theorem vQk(L:Lev):L.flatten.length=(dimL L).sum:=by rw[List.length_flatten];rfl
theorem xY5(L:Lev)(k:Nat):offD L k=((dimL L).take k).sum:=by
 unfold offD;rw[List.length_flatten,J0];rfl
theorem uXv{α:Type}(q:Nat){w w':List α}(h:w.length=w'.length):Z.xrow q w=Z.xrow q w':=by
 unfold Z.xrow;by_cases h0:w.length=0
 ·have h1:w=[]:=Qp.1 h0
  have h2:w'=[]:=Qp.1 (by omega)
  rw[h1,h2]
 ·rw[if_neg h0,if_neg (by omega),h]
theorem xZy(q:Nat){L L':Lev}(h:dimL L=dimL L')(k:Nat):bkD q L k=bkD q L' k:=by
 unfold bkD;rw[xY5,xY5,xY5,xY5,h,uXv q (w':=L'.flatten) (by rw[vQk,vQk,h])]
theorem yXx{L L':Lev}(h:dimL L=dimL L'):L.length=L'.length:=by
 have:=congrArg List.length h;simpa[dimL]using this
theorem yJs{L L':Lev}(h:dimL L=dimL L'){k:Nat}(hk:k<L.length)(hk':k<L'.length):L[k].length=L'[k].length:=by
 have e:(dimL L)[k]?=(dimL L')[k]?:=by rw[h]
 simpa[dimL,hk,hk']using e
theorem zYu{d d':List Lev}(h:dims d=dims d'):d.length=d'.length:=by
 have:=congrArg List.length h;simpa[dims]using this
theorem zKd{d d':List Lev}(h:dims d=dims d'){i:Nat}(hi:i<d.length)(hi':i<d'.length):dimL d[i]=dimL d'[i]:=by
 have e:(dims d)[i]?=(dims d')[i]?:=by rw[h]
 simpa[dims,hi,hi']using e
theorem xZf(L:Lev){k:Nat}(h:k<L.length):(L.flatten.drop (offD L k)).take L[k].length=L[k]:=by
 have e:L.flatten=(L.take k).flatten++(L[k]++(L.drop (k+1)).flatten):=by
  have h1:L=L.take k++(L[k]::L.drop (k+1)):=by rw[←Js h,Qt]
  conv=>lhs;rw[h1]
  rw[List.flatten_append,Jt]
 rw[e];unfold offD;rw[Kq (Qg _),List.drop_length,Ki,J3 (Qg _),Q2]
theorem uQ7(L:Lev){k:Nat}(h:k<L.length)(b:Byt)(hb:b.length=L[k].length):zQo L.flatten (offD L k) b=(L.set k b).flatten:=by
 have e:L.flatten=(L.take k).flatten++(L[k]++(L.drop (k+1)).flatten):=by
  have h1:L=L.take k++(L[k]::L.drop (k+1)):=by rw[←Js h,Qt]
  conv=>lhs;rw[h1]
  rw[List.flatten_append,Jt]
 have e2:(L.set k b).flatten=(L.take k).flatten++(b++(L.drop (k+1)).flatten):=by
  rw[List.set_eq_take_append_cons_drop,if_pos h,List.flatten_append,Jt]
 rw[e,e2];unfold zQo offD;rw[J3 (Qg _),Q2,List.drop_append,List.drop_eq_nil_of_le (by omega),Ki,hb,Je,Kq (Qg _),List.drop_length,Ki,Jq]
theorem yY4{d:List Lev}{i:Nat}(h:i<d.length):(qD d).getD i []=d[i].flatten:=by simp[qD,List.getD,h]
theorem xJ0{q:Nat}{L:Lev}{k:Nat}(h:L.flatten.length≠0):bkD q L k=.ref q (offD L k) (offD L (k+1)-offD L k) L.flatten.length:=by
 unfold bkD Z.xrow;rw[if_neg h];show MixE.ref q (0+offD L k) _ _=_;rw[Jc]
theorem bkD_e{q:Nat}{L:Lev}{k:Nat}(h:L.flatten.length=0):bkD q L k=.data []:=by
 unfold bkD Z.xrow;rw[if_pos h,Qp.1 h];show MixE.data (([].take _).drop _)=_;simp
section
variable {d d':List Lev}
theorem wJq(hd:dims d=dims d'){i k:Nat}(hi:i<d.length)(hi':i<d'.length)(hk:k<d[i].length)(hk':k<d'[i].length):
  Z.XOk (qD d') (bkD i d[i] k)∧Z.xget (qD d') (bkD i d[i] k)=d'[i][k]:=by
 have hL:=zKd hd hi hi';rw[xZy i hL k];have hq:i<(qD d').length:=by simp[qD,hi']
 have o1:=zJ3 d'[i] hk';have o2:=yYi d'[i] (k+1);by_cases h0:d'[i].flatten.length=0
 ·rw[bkD_e h0]
  refine⟨rfl, ?_⟩;have:=yQm d'[i] hk';show([]:Byt)=_;exact(Qp.1 (by omega)).symm
 ·rw[xJ0 h0]
  constructor
  ·simp only[Z.XOk,MixE.xok,yY4 hi',decide_eq_true hq]
   rw[decide_eq_true (show offD d'[i] k+(offD d'[i] (k+1)-offD d'[i] k)≤d'[i].flatten.length by omega),beq_self_eq_true];rfl
  ·show(((qD d').getD i []).drop _).take _=_
   rw[yY4 hi',o1,Je,xZf d'[i] hk']
theorem uWu(hd:dims d=dims d'){i k:Nat}(hi:i<d.length)(hi':i<d'.length)(hk:k<d[i].length)(hk':k<d'[i].length)(b:Byt)(hb:b.length=d[i][k].length)(hpos:0<b.length):
  Z.XW (qD d') (bkD i d[i] k)∧Z.xlen (bkD i d[i] k)=b.length∧Z.xput (qD d') (bkD i d[i] k) b=qD (d'.set i (d'[i].set k b)):=by
 have hL:=zKd hd hi hi';have he:=yJs hL hk hk';rw[xZy i hL k];have hq:i<(qD d').length:=by simp[qD,hi']
 have o1:=zJ3 d'[i] hk';have o2:=yYi d'[i] (k+1);have h0:d'[i].flatten.length≠0:=by omega
 rw[xJ0 h0];refine⟨?_, ?_, ?_⟩
 ·simp only[Z.XW,MixE.xw,yY4 hi',decide_eq_true hq]
  rw[decide_eq_true (show offD d'[i] k+(offD d'[i] (k+1)-offD d'[i] k)≤d'[i].flatten.length by omega),beq_self_eq_true];rfl
 ·show offD d'[i] (k+1)-offD d'[i] k=_
  omega
 ·show(qD d').set i (zQo ((qD d').getD i []) (offD d'[i] k) b)=_
  rw[yY4 hi',uQ7 d'[i] hk' b (by omega)]
  unfold qD;rw[Q6]
theorem xWg(hd:dims d=dims d'){i k:Nat}(hi':i<d'.length)(hk':k<d'[i].length)(b:Byt)(hb:b.length=d'[i][k].length):dims d=dims (d'.set i (d'[i].set k b)):=by
 have e:dimL (d'[i].set k b)=dimL d'[i]:=by
  unfold dimL;rw[Q6,hb];apply Q8;intro j;by_cases hj:j=k
  ·subst hj
   rw[Qk (by simpa using hk')]
   simp[hk']
  ·rw[Qe (Ne.symm hj)]
 rw[hd];unfold dims;rw[Q6,e];apply Q8;intro j;by_cases hj:j=i
 ·subst hj
  rw[Qk (by simpa using hi')]
  simp[hi']
 ·rw[Qe (Ne.symm hj)]
theorem uW8{n i:Nat}(h:i<n)(hi:i<d.length)(h':i<(p2D d n).length):(p2D d n)[i]=.ref i 0 d[i].length d[i].length:=by
 simp[p2D,List.getD,hi]
theorem uXa{n i:Nat}(h:i<n)(hi:i<d.length):(p1D d n).getD i []=bksD i d[i]:=by
 simp[p1D,List.getD,h,hi]
theorem uW9(n:Nat):(p1D d n).length=n:=by simp[p1D]
theorem wYn(n:Nat):(p2D d n).length=n:=by simp[p2D]
theorem xZx(q:Nat)(L:Lev):(bksD q L).length=L.length:=by simp[bksD]
theorem uWe(hd:dims d=dims d'):Z.XOk [p2D d d.length] (.ref 0 0 d.length d.length:MixE (MixE (MixE Int)))∧
    Z.mapO (fun(e61:MixE (MixE (Int)))=>
 if(Z.XOk (p1D d d.length) e61)then Z.bind (Z.mapO (fun(e64:MixE (Int))=>
 if(Z.XOk (qD d') e64)then Z.bnd (Z.xget (qD d') e64) fun(x67:List (Int))=>
 some x67
 else none) (Z.xget (p1D d d.length) e61)) fun(x68:List (List (Int)))=>
 some x68
 else none) (Z.xget [p2D d d.length] (.ref 0 0 d.length d.length))=some d':=by
  have hn:=zYu hd;have hl2:(p2D d d.length).length=d.length:=wYn _;refine⟨by simp[Z.XOk,MixE.xok,hl2], ?_⟩
  have hx:Z.xget [p2D d d.length] (.ref 0 0 d.length d.length:MixE (MixE (MixE Int)))=p2D d d.length:=by
    show((p2D d d.length).drop 0).take d.length=_;rw[Jb,Qf (by omega)]
  rw[hx];refine zJ7 (by omega) fun i h h'=>?_
  have hi:i<d.length:=by omega
  rw[uW8 hi hi];have hg:=uXa (d:=d) hi hi;have hl1:i<(p1D d d.length).length:=by rw[uW9];exact hi
  refine zQa ?_ ?_
  · simp only[Z.XOk,MixE.xok,hg,xZx,decide_eq_true hl1]
    simp
  have hx1:Z.xget (p1D d d.length) (.ref i 0 d[i].length d[i].length:MixE (MixE Int))=bksD i d[i]:=by
    show(((p1D d d.length).getD i []).drop 0).take d[i].length=_;rw[hg,Jb,Qf (by rw[xZx];omega)]
  rw[hx1];have hL:=zKd hd hi h';refine zQm (y:=d'[i]) ?_ rfl;refine zJ7 (by rw[xZx];exact yXx hL) fun k hk hk'=>?_
  have hkd:k<d[i].length:=by rw[xZx]at hk;exact hk
  have e:(bksD i d[i])[k]=bkD i d[i] k:=by simp[bksD]
  rw[e];obtain⟨r1,r2⟩:=wJq hd hi h' hkd hk';refine zQa r1 (zQb r2 rfl)
theorem wY5{i:Nat}(hi:i<d.length):Z.Ix (i:Int) (Z.xlen (.ref 0 0 d.length d.length:MixE (MixE (MixE Int))))∧Z.XPt [p2D d d.length] (.ref 0 0 d.length d.length:MixE (MixE (MixE Int))) (Z.toN (i:Int))∧
  Z.xat [p2D d d.length] (.ref 0 0 d.length d.length) (Z.toN (i:Int)) (MixE.nil:MixE (MixE (Int)))=.ref i 0 d[i].length d[i].length:=by
 have hl2:(p2D d d.length).length=d.length:=wYn _;refine⟨⟨by omega,by show(i:Int).toNat<d.length;omega⟩,by simp[Z.XPt,MixE.xpt,hl2,Z.toN,hi], ?_⟩
 show(p2D d d.length).getD (0+i) _=_;rw[Jc];simp[p2D,List.getD,hi]
theorem wWa{i k:Nat}(hi:i<d.length)(hk:k<d[i].length):Z.Ix (k:Int) (Z.xlen (.ref i 0 d[i].length d[i].length:MixE (MixE Int)))∧Z.XPt (p1D d d.length) (.ref i 0 d[i].length d[i].length:MixE (MixE Int)) (Z.toN (k:Int))∧
  Z.xat (p1D d d.length) (.ref i 0 d[i].length d[i].length) (Z.toN (k:Int)) (MixE.nil:MixE (Int))=bkD i d[i] k:=by
 have hg:=uXa (d:=d) hi hi;have hl1:i<(p1D d d.length).length:=by rw[uW9];exact hi
 refine⟨⟨by omega,by show(k:Int).toNat<d[i].length;omega⟩, ?_, ?_⟩
 ·simp only[Z.XPt,MixE.xpt,hg,xZx,decide_eq_true hl1]
  simp[Z.toN,hk]
 ·show((p1D d d.length).getD i []).getD (0+k) _=_
  rw[hg,Jc];simp[bksD,List.getD,hk]
end
end Go.Proofs.Ytghnechjgchajaa
