/- Devices: written, and replayed. -/
import Derived.Test.YtnbmjkbbppcbcaaDevC
namespace Go.Proofs.Ytnbmjkbbppcbcaa
open Go.Eng
set_option linter.unusedVariables false
set_option linter.unusedSimpArgs false
def wrB(d:List Lev)(level x:Int)(b:Byt):List Lev:=d.set level.toNat ((d.getD level.toNat []).set (x-1).toNat b)
def wrs(d:List Lev)(level:Int)(at_:List Int)(all:List Byt):List Lev:=(List.zip at_ all).foldl (fun d p=>wrB d level p.1 p.2) d
theorem yYp(d:List Lev)(level:Int){at_:List Int}{all:List Byt}{q:Nat}(h1:q<at_.length)(h2:q<all.length):wrs d level (at_.take (q+1)) (all.take (q+1))=wrB (wrs d level (at_.take q) (all.take q)) level at_[q] all[q]:=by
 unfold wrs;rw[Qx h1,Qx h2,List.zip_append (by simp;omega),List.foldl_append]
 rfl
theorem wZg{d:List Lev}{i k:Nat}(hi:i<d.length)(b:Byt):wrB d (i:Int) ((k+1:Nat):Int) b=d.set i (d[i].set k b):=by
 unfold wrB;have e1:(((k+1:Nat):Int)-1).toNat=k:=by omega
 have e2:d.getD (i:Int).toNat []=d[i]:=by simp[List.getD,hi]
 rw[e1,e2];rfl
def wrOk(d:List Lev)(level:Int)(at_:List Int)(all:List Byt):Prop:=plD d level at_∧all.length=at_.length∧∀(q:Nat) (h:q<at_.length) (h':q<all.length),all[q].length=(bkt d level at_[q]).length
open Classical in
noncomputable def wrD(c:CfgT)(d:List Lev)(level:Int)(at_:List Int)(all:List Byt):(List Lev×Unit)×(List SeeT×Int):=
 if zYe c d then(if wrOk d level at_ all then((wrs d level at_ all,()),(zZ9 2 level at_ all,0))else(([],()),([],2)))else(([],()),([],8))
theorem vZr{d d':List Lev}(hd:dims d=dims d'){i k:Nat}(hi:i<d.length)(hk:k<d[i].length)(b:Byt)(hb:b.length=d[i][k].length)(hpos:0<b.length):
  Z.XW (qD d') (bkD i d[i] k)∧Z.xput (qD d') (bkD i d[i] k) (Z.take (Z.minN (Z.len b) (Z.xlen (bkD i d[i] k))) b)=qD (wrB d' (i:Int) ((k+1:Nat):Int) b)∧dims d=dims (wrB d' (i:Int) ((k+1:Nat):Int) b):=by
 have hn:=zJu hd;have hi':i<d'.length:=by omega
 have hL:=zKh hd hi hi';have hk':k<d'[i].length:=by have:=zY5 hL;omega
 have he:=yW4 hL hk hk';obtain⟨w1,w2,w3⟩:=vJg hd hi hi' hk hk' b hb hpos;refine⟨w1, ?_, ?_⟩
 ·rw[w2,wZg hi',←w3]
  show Z.xput _ _ (List.take (min b.length b.length) b)=_;rw[Nat.min_self,Jd]
 ·rw[wZg hi']
  exact xJr hd hi' hk' b (by omega)
end Go.Proofs.Ytnbmjkbbppcbcaa
