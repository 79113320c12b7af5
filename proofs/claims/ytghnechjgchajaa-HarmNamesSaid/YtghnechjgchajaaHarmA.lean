/- Harms: versions, and devices that are harmed. -/
import Derived.Test.YtghnechjgchajaaDevR
namespace Go.Proofs.Ytghnechjgchajaa
open Go.Eng
set_option linter.unusedVariables false
set_option linter.unusedSimpArgs false
abbrev xJt:=Int×(Int×(Int×(Int×(Int×(Int×Unit)))))
def wJb(level bucket:Int)(x:SeeT):Bool:=x.1==2&&x.2.1==level&&x.2.2.1==bucket
def vers(l:List SeeT)(level bucket:Int):List Byt:=(l.filter (wJb level bucket)).map fun x=>x.2.2.2.1
def wrL(l:List SeeT):List SeeT:=l.filter fun x=>x.1==2
theorem wJ6(l:List SeeT)(level bucket:Int){i:Nat}(h:i<l.length):vers (l.take (i+1)) level bucket=if wJb level bucket l[i]then vers (l.take i) level bucket++[l[i].2.2.2.1]else vers (l.take i) level bucket:=by
 unfold vers;rw[Q6 h,Kd,Qx];by_cases hv:wJb level bucket l[i]=true
 ·rw[if_pos hv,List.filter_cons_of_pos hv];rfl
 ·rw[if_neg hv,List.filter_cons_of_neg hv];simp
theorem vZe(l:List SeeT){i:Nat}(h:i<l.length):wrL (l.take (i+1))=if l[i].1=2 then wrL (l.take i)++[l[i]]else wrL (l.take i):=by
 unfold wrL;rw[Q6 h,Kd];by_cases hv:l[i].1=2
 ·rw[if_pos hv,List.filter_cons_of_pos (by simpa using hv)];rfl
 ·rw[if_neg hv,List.filter_cons_of_neg (by simpa using hv)];simp
theorem wJ7(l:List SeeT)(level bucket:Int)(i:Nat):(vers (l.take i) level bucket).length≤i:=by
 unfold vers;rw[Qi];exact J4 (List.length_filter_le _ _) (by rw[J7];omega)
theorem vJe(l:List SeeT)(i:Nat):(wrL (l.take i)).length≤i:=by
 unfold wrL;exact J4 (List.length_filter_le _ _) (by rw[J7];omega)
theorem yWc{level bucket:Int}{x:SeeT}:wJb level bucket x=true↔x.1=2∧x.2.1=level∧x.2.2.1=bucket:=by
 simp[wJb,and_assoc]
theorem yYb(l:List SeeT)(level bucket:Int)(hl:l.length≤2000000)(hb:∀x∈l,x.2.2.2.1.length≤1000000):zJf (l,(level,bucket))=some (vers l level bucket):=by
  unfold zJf;refine zQa rfl ?_;refine zWd (fun(s:Int×List Byt)=>∃i:Nat,i≤l.length∧s=((i:Int),vers (l.take i) level bucket)) (fun s=>l.length-s.1.toNat) ?_ ⟨0,Jm _,rfl⟩ (zJy _ _ (by omega))
  rintro s k ⟨i,hi,rfl⟩ hk;dsimp only;by_cases h:i<l.length
  · have hs:=wJ6 l level bucket h
    have hle:=wJ7 l level bucket i;have dec:l.length-((i+1:Nat):Int).toNat<l.length-((i:Int)).toNat:=by omega
    have skip:wJb level bucket l[i]≠true→(Z.bnd (Z.wrap .i64 (Z.add (i:Int) 1)) fun(x19:Int)=>
 if(Z.EqN (Z.len (vers (l.take i) level bucket)) (Z.len (vers (l.take i) level bucket)))then k (x19,vers (l.take i) level bucket)
 else none)=some (vers l level bucket):=fun hn=>by
      rw[if_neg hn]at hs;refine zQd (zX6 (by omega)) (zQa rfl ?_)
      exact hk _ ⟨i+1,h,by rw[hs]⟩ dec
    refine zQt (decide_eq_true (by simp only[Z.ofN,Z.len];omega)) ?_
    refine zQa (ixND h) (zQd (zKb l h _) ?_);by_cases h1:l[i].1=2
    · refine zQt (by simp[Z.ieq,h1]) ?_
      by_cases h2:l[i].2.1=level
      · refine zQt (by simp[Z.zQh,Z.ieq,h2]) ?_
        by_cases h3:l[i].2.2.1=bucket
        · refine zQt (by simp[Z.zQh,Z.ieq,h3]) ?_
          rw[if_pos (yWc.2 ⟨h1,h2,h3⟩)]at hs;refine zQs (yJm _ (hb _ (Qt h))) ?_;refine zQa (Qf _) ?_;refine zKa (bigD (by simp only[Z.len];omega) (by show 1≤2000000;omega) (by omega)) ?_
          refine zQa rfl ?_;refine zQd (y:=vers (l.take (i+1)) level bucket) (by rw[hs];rfl) ?_
          refine zQd (zX6 (by omega)) (zQa rfl ?_)
          exact hk _ ⟨i+1,h,rfl⟩ dec
        ·refine zQo (by simp[Z.zQh,Z.ieq,h3]) (skip fun hh=>h3 (yWc.1 hh).2.2)
      ·refine zQo (by simp[Z.zQh,Z.ieq,h2]) (skip fun hh=>h2 (yWc.1 hh).2.1)
    ·refine zQo (by simp[Z.ieq,h1]) (skip fun hh=>h1 (yWc.1 hh).1)
  · refine zQo (decide_eq_false (by simp only[Z.ofN,Z.len];omega)) ?_
    rw[Qm (by omega)]
theorem vQp{c:CfgT}{d d':List Lev}(h:zK0 c d)(h':zK0 c d'):dims d=dims d':=by
 obtain⟨_,a1,a2⟩:=h;obtain⟨_,b1,b2⟩:=h';refine List.ext_getElem (by simp[dims];omega) fun i h1 h2=>?_
 have hi:i<d.length:=by simpa[dims]using h1
 have hi':i<d'.length:=by simpa[dims]using h2
 have hs:i<(shS c).length:=by omega
 obtain⟨p1,p2⟩:=a2 i hi hs;obtain⟨q1,q2⟩:=b2 i hi' hs;simp only[dims,List.getElem_map,dimL];refine List.ext_getElem (by simp;omega) fun k k1 k2=>?_
 have hk:k<d[i].length:=by simpa using k1
 have hk':k<d'[i].length:=by simpa using k2
 simp only[List.getElem_map];have:=p2 _ (Qt hk);have:=q2 _ (Qt hk');omega
theorem uZl{d d':List Lev}(hd:dims d=dims d')(level x:Int):(bkt d level x).length=(bkt d' level x).length:=by
 have key:∀d:List Lev,(bkt d level x).length=((dims d).getD level.toNat []).getD (x-1).toNat 0:=by
  intro d;unfold bkt dims;generalize (x-1).toNat=k;by_cases h:level.toNat<d.length
  ·by_cases h2:k<d[level.toNat].length
   ·simp[List.getD,h,dimL,h2]
   ·simp[List.getD,h,dimL,h2]
  ·simp[List.getD,h]
 rw[key,key,hd]
theorem wWf{d d':List Lev}(hd:dims d=dims d')(x:SeeT):zZj d x↔zZj d' x:=by
 unfold zZj;rw[uW0 hd,uZl hd]
theorem pl1{d:List Lev}{level x:Int}:plD d level [x]↔∃(i:Nat) (hi:i<d.length) (k:Nat) (hk:k<d[i].length),level=(i:Int)∧x=((k+1:Nat):Int):=by
 constructor
 ·intro h
  obtain⟨i,hi,rfl,hat⟩:=yW6 h;obtain⟨k,hk,hx⟩:=hat 0 (by simp)
  exact⟨i,hi,k,hk,rfl,hx⟩
 ·rintro⟨i,hi,k,hk,rfl,rfl⟩
  refine⟨⟨by omega,by omega⟩,fun y hy=>?_⟩
  rw[List.mem_singleton]at hy;subst hy;have hget:d.getD (i:Int).toNat []=d[i]:=by simp[List.getD,hi]
  rw[hget];omega
theorem wXp{d:List Lev}{l:List SeeT}(hall:∀x∈l,zZj d x){level bucket:Int}:∀v∈vers l level bucket,v.length=(bkt d level bucket).length:=by
 intro v hv;obtain⟨x,hx,rfl⟩:=Jb.1 hv;obtain⟨h1,h2⟩:=Kj.1 hx;obtain⟨a,b,e⟩:=yWc.1 h2;have:=(hall x h1).2.2;rw[b,e]at this;exact this
theorem xZp{α:Type}{m e:List (List α)}{d:MixE α}(h:Z.XOk m d):Z.XOk (m++e) d∧Z.xget (m++e) d=Z.xget m d:=by
 cases d with
 |data l=>exact⟨rfl,rfl⟩
 |nil=>exact⟨rfl,rfl⟩
 |ref k off n gen=>
  simp only[Z.XOk,MixE.xok,Qb,decide_eq_true_eq,beq_iff_eq]at h⊢;obtain⟨h1,h2⟩:=h;have e:(m++e).getD k []=m.getD k []:=by simp[List.getD,Qc h1]
  rw[e];refine⟨⟨by rw[Q4];omega,h2⟩, ?_⟩
  show((_:List α).drop off).take n=_;rw[e]
theorem wXj{α:Type}{m e:List (List α)}{d:MixE α}(h:Z.XW m d)(l:List α):Z.XW (m++e) d∧Z.xput (m++e) d l=Z.xput m d l++e:=by
 cases d with
 |data l=>simp[Z.XW,MixE.xw]at h
 |nil=>simp[Z.XW,MixE.xw]at h
 |ref k off n gen=>
  simp only[Z.XW,MixE.xw,Qb,decide_eq_true_eq,beq_iff_eq]at h⊢;obtain⟨h1,h2⟩:=h;have e1:(m++e).getD k []=m.getD k []:=by simp[List.getD,Qc h1]
  rw[e1];refine⟨⟨by rw[Q4];omega,h2⟩, ?_⟩
  show(m++e).set k (zQi ((m++e).getD k []) off l)=m.set k (zQi (m.getD k []) off l)++e;rw[e1,List.set_append_left _ _ h1]
theorem vWu{d d':List Lev}(hd:dims d=dims d')(e:List Byt):Z.XOk [p2D d d.length] (.ref 0 0 d.length d.length:MixE (MixE (MixE Int)))∧
    Z.mapO (fun(e61:MixE (MixE (Int)))=>
 if(Z.XOk (p1D d d.length) e61)then Z.bind (Z.mapO (fun(e64:MixE (Int))=>
 if(Z.XOk (qD d'++e) e64)then Z.bnd (Z.xget (qD d'++e) e64) fun(x67:List (Int))=>
 some x67
 else none) (Z.xget (p1D d d.length) e61)) fun(x68:List (List (Int)))=>
 some x68
 else none) (Z.xget [p2D d d.length] (.ref 0 0 d.length d.length))=some d':=by
  have hn:=zJg hd;have hl2:(p2D d d.length).length=d.length:=vQg _;refine⟨by simp[Z.XOk,MixE.xok,hl2], ?_⟩
  have hx:Z.xget [p2D d d.length] (.ref 0 0 d.length d.length:MixE (MixE (MixE Int)))=p2D d d.length:=by
    show((p2D d d.length).drop 0).take d.length=_;rw[Jw,Qm (by omega)]
  rw[hx];refine yQ6 (by omega) fun i h h'=>?_
  have hi:i<d.length:=by omega
  rw[vJm hi hi];have hg:=vQi (d:=d) hi hi;have hl1:i<(p1D d d.length).length:=by rw[vQh];exact hi
  refine zQa ?_ ?_
  · simp only[Z.XOk,MixE.xok,hg,yQm,decide_eq_true hl1]
    simp
  have hx1:Z.xget (p1D d d.length) (.ref i 0 d[i].length d[i].length:MixE (MixE Int))=bksD i d[i]:=by
    show(((p1D d d.length).getD i []).drop 0).take d[i].length=_;rw[hg,Jw,Qm (by rw[yQm];omega)]
  rw[hx1];have hL:=zKc hd hi h';refine zQs (y:=d'[i]) ?_ rfl;refine yQ6 (by rw[yQm];exact yWn hL) fun k hk hk'=>?_
  have hkd:k<d[i].length:=by rw[yQm]at hk;exact hk
  have eb:(bksD i d[i])[k]=bkD i d[i] k:=by simp[bksD]
  rw[eb];obtain⟨r1,r2⟩:=xJm hd hi h' hkd hk';refine zQa (xZp r1).1 (zQd ((xZp r1).2.trans r2) rfl)
theorem vK7{d d':List Lev}(hd:dims d=dims d'){i k n:Nat}(hi:i<d.length)(hk:k<d[i].length)(hn:n<d[i][k].length)(hi':i<d'.length)(hk':k<d'[i].length)(hn':n<d'[i][k].length)(x:Int):
  Z.xset (qD d') (bkD i d[i] k) (Z.toN (n:Int)) x=qD (d'.set i (d'[i].set k (d'[i][k].set n x)))∧Z.xat (qD d') (bkD i d[i] k) (Z.toN (n:Int)) 0=d'[i][k][n]:=by
 have hL:=zKc hd hi hi';have o1:=zJn d'[i] hk';have o2:=yK2 d'[i] (k+1);have h0:d'[i].flatten.length≠0:=by omega
 rw[xWr i hL k,xZj h0];constructor
 ·show(qD d').set i (((qD d').getD i []).set (offD d'[i] k+n) x)=_
  rw[yJq hi',xY4 d'[i] hk' hn' x];unfold qD;rw[Q3]
 ·show((qD d').getD i []).getD (offD d'[i] k+n) 0=_
  rw[yJq hi'];have hp:=xQ8 d'[i] hk';have e:(d'[i].flatten).getD (offD d'[i] k+n) 0=((d'[i].flatten.drop (offD d'[i] k)).take d'[i][k].length).getD n 0:=by
   simp only[List.getD_eq_getElem?_getD];rw[Q9 hn',Jf]
  rw[e,hp];simp[List.getD,hn']
end Go.Proofs.Ytghnechjgchajaa
