/- Harms: versions, and devices that are harmed. -/
import Derived.Test.YtghnechjgchajaaDevR
namespace Go.Proofs.Ytghnechjgchajaa
open Go.Eng
set_option linter.unusedVariables false
set_option linter.unusedSimpArgs false
abbrev xZ9:=Int×(Int×(Int×(Int×(Int×(Int×Unit)))))
def wXp(level bucket:Int)(x:SeeT):Bool:=x.1==2&&x.2.1==level&&x.2.2.1==bucket
def vers(l:List SeeT)(level bucket:Int):List Byt:=(l.filter (wXp level bucket)).map fun x=>x.2.2.2.1
def wrL(l:List SeeT):List SeeT:=l.filter fun x=>x.1==2
theorem xWq(l:List SeeT)(level bucket:Int){i:Nat}(h:i<l.length):vers (l.take (i+1)) level bucket=if wXp level bucket l[i]then vers (l.take i) level bucket++[l[i].2.2.2.1]else vers (l.take i) level bucket:=by
 unfold vers;rw[Qr h,Kd,Qx];by_cases hv:wXp level bucket l[i]=true
 ·rw[if_pos hv,List.filter_cons_of_pos hv];rfl
 ·rw[if_neg hv,List.filter_cons_of_neg hv];simp
theorem wJy(l:List SeeT){i:Nat}(h:i<l.length):wrL (l.take (i+1))=if l[i].1=2 then wrL (l.take i)++[l[i]]else wrL (l.take i):=by
 unfold wrL;rw[Qr h,Kd];by_cases hv:l[i].1=2
 ·rw[if_pos hv,List.filter_cons_of_pos (by simpa using hv)];rfl
 ·rw[if_neg hv,List.filter_cons_of_neg (by simpa using hv)];simp
theorem yZ4(l:List SeeT)(level bucket:Int)(i:Nat):(vers (l.take i) level bucket).length≤i:=by
 unfold vers;rw[Qm];exact J4 (List.length_filter_le _ _) (by rw[J1];omega)
theorem vXe(l:List SeeT)(i:Nat):(wrL (l.take i)).length≤i:=by
 unfold wrL;exact J4 (List.length_filter_le _ _) (by rw[J1];omega)
theorem zXt{level bucket:Int}{x:SeeT}:wXp level bucket x=true↔x.1=2∧x.2.1=level∧x.2.2.1=bucket:=by
 simp[wXp,and_assoc]
theorem xQt(l:List SeeT)(level bucket:Int)(hl:l.length≤2000000)(hb:∀x∈l,x.2.2.2.1.length≤1000000):zJq (l,(level,bucket))=some (vers l level bucket):=by
  unfold zJq;refine zQa rfl ?_;refine zQn (fun(s:Int×List Byt)=>∃i:Nat,i≤l.length∧s=((i:Int),vers (l.take i) level bucket)) (fun s=>l.length-s.1.toNat) ?_ ⟨0,Qw _,rfl⟩ (zXd _ _ (by omega))
  rintro s k ⟨i,hi,rfl⟩ hk;dsimp only;by_cases h:i<l.length
  · have hs:=xWq l level bucket h
    have hle:=yZ4 l level bucket i;have dec:l.length-((i+1:Nat):Int).toNat<l.length-((i:Int)).toNat:=by omega
    have skip:wXp level bucket l[i]≠true→(Z.bnd (Z.wrap .i64 (Z.add (i:Int) 1)) fun(x19:Int)=>
 if(Z.EqN (Z.len (vers (l.take i) level bucket)) (Z.len (vers (l.take i) level bucket)))then k (x19,vers (l.take i) level bucket)
 else none)=some (vers l level bucket):=fun hn=>by
      rw[if_neg hn]at hs;refine zQb (zQ1 (by omega)) (zQa rfl ?_)
      exact hk _ ⟨i+1,h,by rw[hs]⟩ dec
    refine zQe (decide_eq_true (by simp only[Z.ofN,Z.len];omega)) ?_
    refine zQa (ixND h) (zQb (zWg l h _) ?_);by_cases h1:l[i].1=2
    · refine zQe (by simp[Z.ieq,h1]) ?_
      by_cases h2:l[i].2.1=level
      · refine zQe (by simp[Z.zQi,Z.ieq,h2]) ?_
        by_cases h3:l[i].2.2.1=bucket
        · refine zQe (by simp[Z.zQi,Z.ieq,h3]) ?_
          rw[if_pos (zXt.2 ⟨h1,h2,h3⟩)]at hs;refine zQm (xJ6 _ (hb _ (Qh h))) ?_;refine zQa (Qg _) ?_;refine zWa (bigD (by simp only[Z.len];omega) (by show 1≤2000000;omega) (by omega)) ?_
          refine zQa rfl ?_;refine zQb (y:=vers (l.take (i+1)) level bucket) (by rw[hs];rfl) ?_
          refine zQb (zQ1 (by omega)) (zQa rfl ?_)
          exact hk _ ⟨i+1,h,rfl⟩ dec
        ·refine zQd (by simp[Z.zQi,Z.ieq,h3]) (skip fun hh=>h3 (zXt.1 hh).2.2)
      ·refine zQd (by simp[Z.zQi,Z.ieq,h2]) (skip fun hh=>h2 (zXt.1 hh).2.1)
    ·refine zQd (by simp[Z.ieq,h1]) (skip fun hh=>h1 (zXt.1 hh).1)
  · refine zQd (decide_eq_false (by simp only[Z.ofN,Z.len];omega)) ?_
    rw[Qf (by omega)]
theorem wKr{c:CfgT}{d d':List Lev}(h:zZs c d)(h':zZs c d'):dims d=dims d':=by
 obtain⟨_,a1,a2⟩:=h;obtain⟨_,b1,b2⟩:=h';refine List.ext_getElem (by simp[dims];omega) fun i h1 h2=>?_
 have hi:i<d.length:=by simpa[dims]using h1
 have hi':i<d'.length:=by simpa[dims]using h2
 have hs:i<(shS c).length:=by omega
 obtain⟨p1,p2⟩:=a2 i hi hs;obtain⟨q1,q2⟩:=b2 i hi' hs;simp only[dims,List.getElem_map,dimL];refine List.ext_getElem (by simp;omega) fun k k1 k2=>?_
 have hk:k<d[i].length:=by simpa using k1
 have hk':k<d'[i].length:=by simpa using k2
 simp only[List.getElem_map];have:=p2 _ (Qh hk);have:=q2 _ (Qh hk');omega
theorem uYb{d d':List Lev}(hd:dims d=dims d')(level x:Int):(bkt d level x).length=(bkt d' level x).length:=by
 have key:∀d:List Lev,(bkt d level x).length=((dims d).getD level.toNat []).getD (x-1).toNat 0:=by
  intro d;unfold bkt dims;generalize (x-1).toNat=k;by_cases h:level.toNat<d.length
  ·by_cases h2:k<d[level.toNat].length
   ·simp[List.getD,h,dimL,h2]
   ·simp[List.getD,h,dimL,h2]
  ·simp[List.getD,h]
 rw[key,key,hd]
theorem xXz{d d':List Lev}(hd:dims d=dims d')(x:SeeT):zW5 d x↔zW5 d' x:=by
 unfold zW5;rw[uKp hd,uYb hd]
theorem pl1{d:List Lev}{level x:Int}:plD d level [x]↔∃(i:Nat) (hi:i<d.length) (k:Nat) (hk:k<d[i].length),level=(i:Int)∧x=((k+1:Nat):Int):=by
 constructor
 ·intro h
  obtain⟨i,hi,rfl,hat⟩:=xQ4 h;obtain⟨k,hk,hx⟩:=hat 0 (by simp)
  exact⟨i,hi,k,hk,rfl,hx⟩
 ·rintro⟨i,hi,k,hk,rfl,rfl⟩
  refine⟨⟨by omega,by omega⟩,fun y hy=>?_⟩
  rw[List.mem_singleton]at hy;subst hy;have hget:d.getD (i:Int).toNat []=d[i]:=by simp[List.getD,hi]
  rw[hget];omega
theorem xYb{d:List Lev}{l:List SeeT}(hall:∀x∈l,zW5 d x){level bucket:Int}:∀v∈vers l level bucket,v.length=(bkt d level bucket).length:=by
 intro v hv;obtain⟨x,hx,rfl⟩:=Ja.1 hv;obtain⟨h1,h2⟩:=Kf.1 hx;obtain⟨a,b,e⟩:=zXt.1 h2;have:=(hall x h1).2.2;rw[b,e]at this;exact this
theorem uWs{d d':List Lev}(hd:dims d=dims d'){i k n:Nat}(hi:i<d.length)(hk:k<d[i].length)(hn:n<d[i][k].length)(hi':i<d'.length)(hk':k<d'[i].length)(hn':n<d'[i][k].length)(x:Int):
  Z.xset (qD d') (bkD i d[i] k) (Z.toN (n:Int)) x=qD (d'.set i (d'[i].set k (d'[i][k].set n x)))∧Z.xat (qD d') (bkD i d[i] k) (Z.toN (n:Int)) 0=d'[i][k][n]:=by
 have hL:=zKd hd hi hi';have o1:=zJ3 d'[i] hk';have o2:=yYi d'[i] (k+1);have h0:d'[i].flatten.length≠0:=by omega
 rw[xZy i hL k,xJ0 h0];constructor
 ·show(qD d').set i (((qD d').getD i []).set (offD d'[i] k+n) x)=_
  rw[yY4 hi',wXy d'[i] hk' hn' x];unfold qD;rw[Q6]
 ·show((qD d').getD i []).getD (offD d'[i] k+n) 0=_
  rw[yY4 hi'];have hp:=xZf d'[i] hk';have e:(d'[i].flatten).getD (offD d'[i] k+n) 0=((d'[i].flatten.drop (offD d'[i] k)).take d'[i][k].length).getD n 0:=by
   simp only[List.getD_eq_getElem?_getD];rw[Jg hn',Jn]
  rw[e,hp];simp[List.getD,hn']
end Go.Proofs.Ytghnechjgchajaa
