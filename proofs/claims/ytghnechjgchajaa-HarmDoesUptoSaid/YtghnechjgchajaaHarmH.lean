/- The document's device that is harmed: copied bucket by bucket, then turned. -/
import Derived.Test.YtghnechjgchajaaHarmG
namespace Go.Proofs.Ytghnechjgchajaa
open Go.Eng
set_option linter.unusedVariables false
set_option linter.unusedSimpArgs false
theorem zK7{α:Type}(l:List α)(i j:Nat)(v z:α):(l.set i v).getD j z=if i=j∧i<l.length then v else l.getD j z:=by
 simp only[List.getD_eq_getElem?_getD,List.getElem?_set];by_cases h:i=j
 ·subst h
  by_cases h2:i<l.length
  ·simp[h2]
  ·simp[h2]
 ·simp[h]
theorem xJq{α:Type}(L:List (List α)){k:Nat}(h:k<L.length):L.flatten=(L.take k).flatten++(L[k]++(L.drop (k+1)).flatten):=by
 have h1:L=L.take k++(L[k]::L.drop (k+1)):=by rw[←Js h,Qt]
 conv=>lhs;rw[h1]
 rw[List.flatten_append,Jt]
theorem wQu{α:Type}(L:List (List α)){i k:Nat}(h:i<L.length)(hk:k<L[i].length)(z:α):(L.take i).flatten.length+k<L.flatten.length∧L.flatten.getD ((L.take i).flatten.length+k) z=L[i][k]:=by
 have e:=xJq L h;refine⟨by rw[e,Qz,Qz];omega, ?_⟩
 rw[List.getD_eq_getElem?_getD,e,Qi (by omega),Je,Qb hk,Ql hk]
 rfl
theorem uQ8{α:Type}(L:List (List α)){i k:Nat}(h:i<L.length)(hk:k<L[i].length)(v:α):L.flatten.set ((L.take i).flatten.length+k) v=(L.set i (L[i].set k v)).flatten:=by
 have e2:(L.set i (L[i].set k v)).flatten=(L.take i).flatten++(L[i].set k v++(L.drop (i+1)).flatten):=by
  rw[List.set_eq_take_append_cons_drop,if_pos h,List.flatten_append,Jt]
 rw[xJq L h,e2,List.set_append_right _ _ (by omega),Je,List.set_append_left _ _ hk]
def rwF(q:Nat)(L:Lev)(n:Nat):List (MixE Int):=(List.range n).map fun k=>.ref (q+k) 0 (L.getD k []).length (L.getD k []).length
theorem xYp(q:Nat)(L:Lev)(n:Nat):(rwF q L n).length=n:=by simp[rwF]
theorem vY4(q:Nat)(L:Lev){n:Nat}(h:n<L.length):rwF q L (n+1)=rwF q L n++[.ref (q+n) 0 L[n].length L[n].length]:=by
 unfold rwF;rw[List.range_succ,Qx];simp[List.getD,h]
theorem vZp(q:Nat)(L:Lev){n k:Nat}(h:k<n)(hk:k<L.length)(z:MixE Int):(rwF q L n).getD k z=.ref (q+k) 0 L[k].length L[k].length:=by
 simp[rwF,List.getD,h,hk]
def p1F(d:List Lev)(n:Nat):List (List (MixE Int)):=(List.range n).map fun j=>rwF (d.take j).flatten.length (d.getD j []) (d.getD j []).length
theorem xXr(d:List Lev)(n:Nat):(p1F d n).length=n:=by simp[p1F]
theorem uQf(d:List Lev){i:Nat}(h:i<d.length):p1F d (i+1)=p1F d i++[rwF (d.take i).flatten.length d[i] d[i].length]:=by
 unfold p1F;rw[List.range_succ,Qx];simp[List.getD,h]
theorem wKh(d:List Lev){n i:Nat}(h:i<n)(hi:i<d.length):(p1F d n).getD i []=rwF (d.take i).flatten.length d[i] d[i].length:=by
 simp[p1F,List.getD,h,hi]
def Tell(m:List Byt)(P:List (List (MixE Int)))(d:List Lev):Prop:=P.length=d.length∧∀(i:Nat),(P.getD i []).length=(d.getD i []).length∧∀(k:Nat),k<(d.getD i []).length→Z.XOk m ((P.getD i []).getD k .nil)∧Z.xget m ((P.getD i []).getD k .nil)=(d.getD i []).getD k []
theorem wYa(d:List Lev):Tell d.flatten (p1F d d.length) d:=by
 refine⟨xXr _ _,fun i=>?_⟩
 by_cases hi:i<d.length
 ·have e:d.getD i []=d[i]:=by simp[List.getD,hi]
  rw[wKh d hi hi,e];refine⟨xYp _ _ _,fun k hk=>?_⟩
  rw[vZp _ _ hk hk];obtain⟨a1,a2⟩:=wQu d hi hk ([]:Byt);constructor
  ·simp only[Z.XOk,MixE.xok,a2,decide_eq_true a1]
   simp
  ·show((d.flatten.getD _ []).drop 0).take d[i][k].length=_
   rw[a2,Jb,Q2];simp[List.getD,hk]
 ·have e1:(p1F d d.length).getD i []=[]:=by rw[List.getD_eq_getElem?_getD,Q4 (by rw[xXr];omega)];rfl
  have e2:d.getD i []=[]:=by rw[List.getD_eq_getElem?_getD,Q4 (by omega)];rfl
  rw[e1,e2];exact⟨rfl,fun k hk=>by simp at hk⟩
theorem xYf{m:List Byt}{P:List (List (MixE Int))}{d:List Lev}(h:Tell m P d)(i x:Nat)(e:MixE Int)(b:Byt)(he:Z.XOk m e)(hb:Z.xget m e=b):Tell m (P.set i ((P.getD i []).set x e)) (d.set i ((d.getD i []).set x b)):=by
 obtain⟨h0,h1⟩:=h;refine⟨by rw[List.length_set,List.length_set];exact h0,fun j=>?_⟩
 rw[zK7,zK7,h0];by_cases hj:i=j∧i<d.length
 ·rw[if_pos hj,if_pos hj]
  obtain⟨a1,a2⟩:=h1 i;refine⟨by rw[List.length_set,List.length_set];exact a1,fun k hk=>?_⟩
  rw[List.length_set]at hk;rw[zK7,zK7,a1];by_cases hx:x=k∧x<(d.getD i []).length
  ·rw[if_pos hx,if_pos hx];exact⟨he,hb⟩
  ·rw[if_neg hx,if_neg hx];exact a2 k hk
 ·rw[if_neg hj,if_neg hj]
  exact h1 j
theorem yW2{m:List Byt}{P:List (List (MixE Int))}{d d':List Lev}(hd:dims d=dims d')(h:Tell m P d'):(if(Z.XOk [p2D d d.length] (.ref 0 0 d.length d.length:MixE (MixE (MixE Int))))then Z.bind (Z.mapO (fun(e103:MixE (MixE (Int)))=>
 if(Z.XOk P e103)then Z.bind (Z.mapO (fun(e106:MixE (Int))=>
 if(Z.XOk m e106)then Z.bnd (Z.xget m e106) fun(x109:List (Int))=>
 some x109
 else none) (Z.xget P e103)) fun(x110:List (List (Int)))=>
 some x110
 else none) (Z.xget [p2D d d.length] (.ref 0 0 d.length d.length))) fun(x111:List (List (List (Int))))=>
 some (x111,())
 else none)=some (d',()):=by
  obtain⟨h0,h1⟩:=h;have hn:=zYu hd;have hl2:(p2D d d.length).length=d.length:=wYn _;refine zQa (by simp[Z.XOk,MixE.xok,hl2]) ?_
  have hx:Z.xget [p2D d d.length] (.ref 0 0 d.length d.length:MixE (MixE (MixE Int)))=p2D d d.length:=by
    show((p2D d d.length).drop 0).take d.length=_;rw[Jb,Qf (by omega)]
  rw[hx];refine zQm (y:=d') ?_ rfl;refine zJ7 (by omega) fun i h h'=>?_
  have hi:i<d.length:=by omega
  rw[uW8 hi hi];have hL:=yXx (zKd hd hi h');obtain⟨a1,a2⟩:=h1 i;have e:d'.getD i []=d'[i]:=by simp[List.getD,h']
  rw[e]at a1 a2;refine zQa ?_ ?_
  · simp only[Z.XOk,MixE.xok,a1,decide_eq_true (show i<P.length by omega)]
    simp[hL]
  have hx1:Z.xget P (.ref i 0 d[i].length d[i].length:MixE (MixE Int))=P.getD i []:=by
    show((P.getD i []).drop 0).take d[i].length=_;rw[Jb,Qf (by omega)]
  rw[hx1];refine zQm (y:=d'[i]) ?_ rfl;refine zJ7 a1 fun k hk hk'=>?_
  obtain⟨b1,b2⟩:=a2 k hk';have e1:(P.getD i []).getD k .nil=(P.getD i [])[k]:=by rw[List.getD_eq_getElem?_getD,Ql hk];rfl
  have e2:d'[i].getD k []=d'[i][k]:=by simp[List.getD,hk']
  rw[e1]at b1 b2;rw[e2]at b2;exact zQa b1 (zQb b2 rfl)
theorem vQl{d:List Lev}{i k:Nat}(hi:i<d.length)(hk:k<d[i].length):Z.Ix (k:Int) (Z.xlen (.ref i 0 d[i].length d[i].length:MixE (MixE Int)))∧Z.XPt (p1F d d.length) (.ref i 0 d[i].length d[i].length:MixE (MixE Int)) (Z.toN (k:Int))∧
  Z.xat (p1F d d.length) (.ref i 0 d[i].length d[i].length) (Z.toN (k:Int)) (MixE.nil:MixE (Int))=.ref ((d.take i).flatten.length+k) 0 d[i][k].length d[i][k].length:=by
 have hg:=wKh d hi hi;have hl1:i<(p1F d d.length).length:=by rw[xXr];exact hi
 refine⟨⟨by omega,by show(k:Int).toNat<d[i].length;omega⟩, ?_, ?_⟩
 ·simp only[Z.XPt,MixE.xpt,hg,xYp,decide_eq_true hl1]
  simp[Z.toN,hk]
 ·show((p1F d d.length).getD i []).getD (0+k) _=_
  rw[hg,Jc];exact vZp _ _ hk hk _
theorem uKv{d:List Lev}{i x:Nat}(hi:i<d.length)(hx:x<d[i].length)(b:Byt)(hb:b.length=d[i][x].length):p1F (d.set i (d[i].set x b)) (d.set i (d[i].set x b)).length=p1F d d.length:=by
 have el:(d.set i (d[i].set x b)).map List.length=d.map List.length:=by
  rw[Q6,List.length_set];refine List.ext_getElem (by simp) fun j h1 h2=>?_
  simp only[List.getElem_set,List.getElem_map];split
  ·rename_i h;subst h;rfl
  ·rfl
 rw[List.length_set];unfold p1F;refine Jd fun j hj=>?_
 have hj:j<d.length:=List.mem_range.1 hj;have e1:((d.set i (d[i].set x b)).take j).flatten.length=(d.take j).flatten.length:=by
  rw[List.length_flatten,List.length_flatten,J0,J0,el]
 rw[e1];by_cases hij:i=j
 ·subst hij
  have e2:(d.set i (d[i].set x b)).getD i []=d[i].set x b:=by simp[List.getD,hi]
  have e3:d.getD i []=d[i]:=by simp[List.getD,hi]
  rw[e2,e3,List.length_set];unfold rwF;refine Jd fun k hk=>?_
  rw[zK7];by_cases hk:x=k∧x<d[i].length
  ·rw[if_pos hk,←hk.1,hb]
   have e4:d[i].getD x []=d[i][x]:=by simp[List.getD,hx]
   rw[e4]
  ·rw[if_neg hk]
 ·have e2:(d.set i (d[i].set x b)).getD j []=d.getD j []:=by rw[zK7,if_neg fun h=>hij h.1]
  rw[e2]
theorem vYm(b:Byt)(hb:b.length≤2000000):zXe b=some b:=by
  unfold zXe;refine zQa (Qg _) ?_
  first
  | (refine zWa (bigD (by show 0≤2000000;omega) (by show b.length≤2000000;omega) (by omega)) ?_
     exact zQb (y:=b) rfl rfl)
  | (by_cases h:b.length=0
     · refine iteP h (zQa (Qg _) ?_)
       rw[Qp.1 h];rfl
     · refine iteN h (zWa (bigD (by show 0≤2000000;omega) (by show b.length≤2000000;omega) (by omega)) ?_)
       refine zQb (y:=b) rfl (zQa (by show 0+b.length≤b.length;omega) ?_)
       congr 1;show(b.drop 0).take b.length=b;rw[Jb,Qf (Qg _)])
theorem vQd(d:List Lev)(lv x:Int):yW6 ((d,()),(lv,x))=some (plB d lv [x]):=by
 unfold yW6;dsimp only;by_cases l0:0≤lv
 rotate_left
 ·exact zQd (decide_eq_false l0) (by rw[yK3 fun h=>l0 h.1.1])
 refine zQe (decide_eq_true l0) ?_;by_cases l1:lv<d.length
 rotate_left
 ·exact zQd (by simp only[Z.zQi,Z.ilt,Z.ofN,Z.len];simpa using l1) (by rw[yK3 fun h=>l1 h.1.2])
 refine zQe (by simp only[Z.zQi,Z.ilt,Z.ofN,Z.len];simpa using l1) ?_
 by_cases x0:1≤x
 rotate_left
 ·exact zQd (by simp only[Z.zQi,Z.ige];simpa using x0) (by rw[yK3 fun h=>x0 (h.2 x (by simp)).1])
 refine zQe (by simp only[Z.zQi,Z.ige];simpa using x0) ?_
 obtain⟨i,rfl⟩:∃i:Nat,lv=(i:Int):=⟨lv.toNat,by omega⟩
 have hi:i<d.length:=by omega
 have hget:d.getD (i:Int).toNat []=d[i]:=by simp[List.getD,hi]
 refine zQa (ixND hi) (zQb (zWg d hi _) ?_);by_cases x1:x≤d[i].length
 ·rw[wKd ⟨⟨l0,l1⟩,fun y hy=>by rw[List.mem_singleton]at hy;subst hy;rw[hget];exact⟨x0,x1⟩⟩]
  simp[Z.zQi,Z.ile,Z.ofN,Z.len,x1]
 ·rw[yK3 fun h=>x1 (by have:=(h.2 x (by simp)).2;rw[hget]at this;exact this)]
  simp only[Z.zQi,Z.ile,Z.ofN,Z.len];simp;omega
theorem yQy(l:List SeeT)(level bucket:Int)(hl:l.length≤2000000)(hb:∀x∈l,x.2.2.2.1.length≤2000000):zX6 (l,(level,bucket))=some (vers l level bucket):=by
  unfold zX6;refine zQa rfl ?_;refine zQn (fun(s:List Byt×Int)=>∃i:Nat,i≤l.length∧s=(vers (l.take i) level bucket,(i:Int))) (fun s=>l.length-s.2.toNat) ?_ ⟨0,Qw _,rfl⟩ (zXd _ _ (by omega))
  rintro s k ⟨i,hi,rfl⟩ hk;dsimp only;by_cases h:i<l.length
  · have hs:=xWq l level bucket h
    have hle:=yZ4 l level bucket i;have dec:l.length-((i+1:Nat):Int).toNat<l.length-((i:Int)).toNat:=by omega
    have skip:wXp level bucket l[i]≠true→(Z.bnd (Z.wrap .i64 (Z.add (i:Int) 1)) fun(x19:Int)=>
 if(Z.EqN (Z.len (vers (l.take i) level bucket)) (Z.len (vers (l.take i) level bucket)))then k (vers (l.take i) level bucket,x19)
 else none)=some (vers l level bucket):=fun hn=>by
      rw[if_neg hn]at hs;refine zQb (zQ1 (by omega)) (zQa rfl ?_)
      exact hk _ ⟨i+1,h,by rw[hs]⟩ dec
    refine zQe (decide_eq_true (by simp only[Z.ofN,Z.len];omega)) ?_
    refine zQa (ixND h) (zQb (zWg l h _) ?_);by_cases h1:l[i].1=2
    · refine zQe (by simp[Z.ieq,h1]) ?_
      refine zQa (ixND h) (zQb (zWg l h _) ?_);by_cases h2:l[i].2.1=level
      · refine zQe (by simp[Z.zQi,Z.ieq,h2]) ?_
        refine zQa (ixND h) (zQb (zWg l h _) ?_);by_cases h3:l[i].2.2.1=bucket
        · refine zQe (by simp[Z.zQi,Z.ieq,h3]) ?_
          rw[if_pos (zXt.2 ⟨h1,h2,h3⟩)]at hs;have hbi:=hb _ (Qh h);refine zQa (ixND h) (zQb (zWg l h _) ?_);refine zQa (Qg _) ?_;refine zWa (bigD (by show 0≤2000000;omega) (by show l[i].2.2.2.1.length≤2000000;omega) (by omega)) ?_
          refine zQb (y:=l[i].2.2.2.1) rfl ?_;refine zQa (Qg _) ?_;refine zWa (bigD (by simp only[Z.len];omega) (by show 1≤2000000;omega) (by omega)) ?_
          refine zQa rfl ?_;refine zQb (y:=vers (l.take (i+1)) level bucket) (by rw[hs];rfl) ?_
          refine zQb (zQ1 (by omega)) (zQa rfl ?_)
          exact hk _ ⟨i+1,h,rfl⟩ dec
        ·refine zQd (by simp[Z.zQi,Z.ieq,h3]) (skip fun hh=>h3 (zXt.1 hh).2.2)
      ·refine zQd (by simp[Z.zQi,Z.ieq,h2]) (skip fun hh=>h2 (zXt.1 hh).2.1)
    ·refine zQd (by simp[Z.ieq,h1]) (skip fun hh=>h1 (zXt.1 hh).1)
  · refine zQd (decide_eq_false (by simp only[Z.ofN,Z.len];omega)) ?_
    rw[Qf (by omega)]
def upto:List SeeT→Nat→List SeeT
 |[],_=>[]
 |_::_,0=>[]
 |x::l,m+1=>if x.1=2 then x::upto l m else x::upto l (m+1)
theorem xYd:∀(l:List SeeT) (m:Nat),wrL (upto l m)=(wrL l).take m∧(∀x∈upto l m,x∈l)∧(upto l m).length≤l.length
 |[],m=>by simp[upto,wrL]
 |_::_,0=>by simp[upto,wrL]
 | x::l,m+1=>by
  by_cases h:x.1=2
  ·obtain⟨a,b,c⟩:=xYd l m
   rw[show upto (x::l) (m+1)=x::upto l m by rw[upto,if_pos h]]
   refine⟨?_,fun y hy=>?_,by simp only[Jk];omega⟩
   ·unfold wrL at a⊢
    rw[List.filter_cons_of_pos (by simpa using h),List.filter_cons_of_pos (by simpa using h),a];rfl
   ·rcases Jh.1 hy with rfl|hy
    ·exact Jo
    ·exact Q9 _ (b y hy)
  ·obtain⟨a,b,c⟩:=xYd l (m+1)
   rw[show upto (x::l) (m+1)=x::upto l (m+1) by rw[upto,if_neg h]]
   refine⟨?_,fun y hy=>?_,by simp only[Jk];omega⟩
   ·unfold wrL at a⊢
    rw[List.filter_cons_of_neg (by simpa using h),List.filter_cons_of_neg (by simpa using h),a]
   ·rcases Jh.1 hy with rfl|hy
    ·exact Jo
    ·exact Q9 _ (b y hy)
theorem uQ9(l:List SeeT)(m:Nat)(hl:l.length≤2000000):zJy (l,(m:Int))=some (upto l m):=by
 unfold zJy;dsimp only;refine zQn (fun(s:Int×Int)=>∃n i:Nat,s=((n:Int),(i:Int))∧n≤i∧i≤l.length∧n≤m∧l.take i++upto (l.drop i) (m-n)=upto l m) (fun s=>l.length-s.2.toNat) ?_ ⟨0,0,rfl,Qg _,Qw _,Qw _,rfl⟩ (zXd _ _ (by omega))
 rintro s k ⟨n,i,rfl,hni,hi,hn,hu⟩ hk;dsimp only;by_cases h:i<l.length
 ·refine zQe (decide_eq_true (by simp only[Z.ofN,Z.len];omega)) ?_
  rw[Js h]at hu;by_cases hnm:n=m
  ·refine zQe (by simp[Z.ieq,hnm]) ?_
   refine zQa ⟨by omega,by simp only[Z.len];omega⟩ ?_
   refine zQb (y:=l.take i) (by show(l.drop 0).take _=_;rw[Jb];rfl) ?_
   rw[hnm,Nat.sub_self]at hu;rw[←hu];simp[upto]
  ·refine zQd (by have h9:¬((n:Int)=(m:Int)):=(by omega);simpa[Z.ieq]using h9) ?_
   refine zQa (ixND h) (zQb (zWg l h _) ?_);obtain⟨q,hq⟩:∃q,m-n=q+1:=⟨m-n-1,by omega⟩
   rw[hq]at hu;have dec:l.length-((i+1:Nat):Int).toNat<l.length-((i:Int)).toNat:=by omega
   by_cases h2:l[i].1=2
   ·refine zQe (by simp[Z.ieq,h2]) ?_
    refine zQb (zQ1 (by omega)) (zQb (zQ1 (by omega)) ?_)
    refine hk _ ⟨n+1,i+1,rfl,by omega,h,by omega, ?_⟩ dec
    rw[←hu,upto,if_pos h2,Qr h,show m-(n+1)=q by omega,Jq];rfl
   ·refine zQd (by simp[Z.ieq,h2]) ?_
    refine zQb (zQ1 (by omega)) ?_
    refine hk _ ⟨n,i+1,rfl,by omega,h,hn, ?_⟩ dec
    rw[←hu,upto,if_neg h2,Qr h,hq,Jq];rfl
 ·refine zQd (decide_eq_false (by simp only[Z.ofN,Z.len];omega)) ?_
  have e:i=l.length:=by omega
  subst e;rw[Q2,List.drop_length]at hu;rw[←hu];simp[upto]
theorem uWa(l:List SeeT)(many:Int)(h0:0≤many)(hl:l.length≤2000000):∃f,zJy (l,many)=some f∧wrL f=(wrL l).take many.toNat∧(∀x∈f,x∈l)∧f.length≤l.length:=by
 obtain⟨m,rfl⟩:∃m:Nat,many=(m:Int):=⟨many.toNat,by omega⟩
 obtain⟨a,b,c⟩:=xYd l m;exact⟨_,uQ9 l m hl,a,b,c⟩
theorem wZo(d:List Lev)(i x:Nat)(b:Byt):wrB d (i:Int) ((x+1:Nat):Int) b=d.set i ((d.getD i []).set x b):=by
 unfold wrB;rw[show((x+1:Nat):Int)-1=(x:Int) by omega];rfl
theorem uW7{P:List (List (MixE Int))}{i x y n:Nat}(e:MixE Int)(hi:i<P.length)(hn:(P.getD i []).length=n)(hy:y<n):Z.XPt (P.set i ((P.getD i []).set x e)) (.ref i 0 n n:MixE (MixE Int)) (Z.toN (y:Int)):=by
 have e1:(P.set i ((P.getD i []).set x e)).getD i []=(P.getD i []).set x e:=by rw[zK7,if_pos ⟨rfl,hi⟩]
 simp only[Z.XPt,MixE.xpt,e1,List.length_set,hn,decide_eq_true hi];simp[Z.toN,hy]
theorem uJw{c:CfgT}{d d':List Lev}{l:List SeeT}{h:xZ9}(hok:zZs c d)(hall:∀x∈l,zW5 d x)(hl:l.length≤1000000)(hh:hrm c d l h=some d'):yZa (c,((d,()),(l,h)))=some (d',()):=by
 have hd:=wQo hok hall hh;obtain⟨hn,hB⟩:=zK1 hok;unfold yZa;by_cases h5:h.1=5
 ·refine zQe (by simp[Z.ieq,h5]) ?_
  refine zQm (xKe hok.1) ?_;unfold hrm at hh;rw[if_pos h5]at hh;by_cases hA:0≤h.2.2.2.2.1∧h.2.2.2.2.1≤(wrL l).length
  rotate_left
  ·rw[if_neg hA]at hh;simp at hh
  rw[if_pos hA]at hh;simp only[Qd]at hh;obtain⟨f,f1,f2,f3,f4⟩:=uWa l h.2.2.2.2.1 hA.1 (by omega)
  refine zQm f1 ?_;obtain⟨k1,k2⟩:=yJw hok hall;refine zQm (wZf k1 (fun x hx=>k2 x (f3 x hx)) (by omega)) ?_
  rw[←uKe,f2,hh]
 refine zQd (by simp[Z.ieq,h5]) ?_
 refine zQn (fun(s:Int×(MixE (MixE (MixE Int))×(List (List (MixE (MixE Int)))×(List Byt×List (List (MixE Int))))))=>∃i:Nat,i≤d.length∧s=((i:Int),(.ref 0 0 i i,([p2D d i],((d.take i).flatten,p1F d i))))) (fun s=>d.length-s.1.toNat) ?_ ⟨0,Qw _,rfl⟩ (zXd _ _ (by omega))
 rintro s k ⟨i,hi,rfl⟩ hk;dsimp only;by_cases hlt:i<d.length
 ·refine zQe (decide_eq_true (by simp only[Z.ofN,Z.len];omega)) ?_
  refine zQa (ixND hlt) (zQb (zWg d hlt _) ?_);have hL:=hB _ (Qh hlt);clear hh hd h5;refine zQn (fun(s:Int×(MixE (MixE Int)×(List (List (MixE Int))×List Byt)))=>∃q:Nat,q≤d[i].length∧s=((q:Int),(.ref 0 0 q q,([rwF (d.take i).flatten.length d[i] q],(d.take i).flatten++d[i].take q)))) (fun s=>d[i].length-s.1.toNat) ?_ ⟨0,Qw _,by simp[rwF]⟩ (zXd _ _ (by omega))
  rintro s k2 ⟨q,hq,rfl⟩ hk2;dsimp only;by_cases hlq:q<d[i].length
  ·refine zQe (decide_eq_true (by simp only[Z.ofN,Z.len];omega)) ?_
   refine zQa (ixND hlq) (zQb (zWg d[i] hlq _) ?_);have hb:=hL.2 _ (Qh hlq);have el:((d.take i).flatten++d[i].take q).length=(d.take i).flatten.length+q:=by rw[Qz,J1,Nat.min_eq_left hq]
   refine zQa (Qw _) ?_;refine iteN (by show¬d[i][q].length=0;omega) ?_
   refine zWa (bigD (by show 0≤2000000;omega) (by show d[i][q].length≤2000000;omega) (by omega)) ?_
   refine zQb (y:=d[i][q]) rfl ?_;refine zQa rfl (zQa rfl ?_);refine zQb (y:=(d.take i).flatten++d[i].take (q+1)) (by rw[Qr hlq,←Jq]) ?_
   refine zQa (by simp[Z.XGr,MixE.xgr,xYp]) ?_
   refine iteN (by show¬(1:Nat)=0;decide) ?_
   refine zWa (bigD (by show q≤2000000;omega) (by show 1≤2000000;omega) (by omega)) ?_
   refine zQb (y:=[rwF (d.take i).flatten.length d[i] (q+1)]) ?_ ?_
   ·rw[vY4 _ _ hlq]
    show [rwF (d.take i).flatten.length d[i] q].set 0 ([rwF (d.take i).flatten.length d[i] q].getD 0 []++[.ref ((d.take i).flatten++d[i].take q).length 0 d[i][q].length d[i][q].length])=_;rw[el];rfl
   refine zQb (y:=MixE.ref 0 0 (q+1) (q+1)) rfl ?_;refine zQb (zQ1 (by omega)) ?_
   exact hk2 _ ⟨q+1,hlq,rfl⟩ (by show d[i].length-((q+1:Nat):Int).toNat<d[i].length-((q:Int)).toNat;omega)
  ·refine zQd (decide_eq_false (by simp only[Z.ofN,Z.len];omega)) ?_
   have hq2:q=d[i].length:=by omega
   subst hq2;rw[Q2];refine zQb (y:=p1F d (i+1)) (by rw[uQf d hlt]) ?_
   refine zQa (by simp[Z.XGr,MixE.xgr,wYn]) ?_
   refine iteN (by show¬(1:Nat)=0;decide) ?_
   refine zWa (bigD (by show i≤2000000;omega) (by show 1≤2000000;omega) (by omega)) ?_
   refine zQb (y:=[p2D d (i+1)]) ?_ ?_
   ·rw[wYo d hlt]
    show [p2D d i].set 0 ([p2D d i].getD 0 []++[.ref ((p1F d i).length+0) 0 d[i].length d[i].length])=_;rw[xXr];rfl
   refine zQb (y:=MixE.ref 0 0 (i+1) (i+1)) rfl ?_;refine zQb (zQ1 (by omega)) ?_
   refine hk _ ⟨i+1,hlt, ?_⟩ (by show d.length-((i+1:Nat):Int).toNat<d.length-((i:Int)).toNat;omega)
   rw[Qr hlt,List.flatten_append,List.flatten_singleton]
 refine zQd (decide_eq_false (by simp only[Z.ofN,Z.len];omega)) ?_
 have hi2:i=d.length:=by omega
 subst hi2;rw[Q2];clear hk;obtain⟨i,hi,x,hx,e1,e2,_⟩:=vQa hok hall h5 hh;obtain⟨p1,p2,p3⟩:=wY5 hi;have hp:plD d h.2.1 [h.2.2.1]:=pl1.2 ⟨i,hi,x,hx,e1,e2⟩;rw[vQb c d l h h5 hp]at hh
 obtain⟨kind,lv,A,B,At,mask,u⟩:=h;dsimp only at *;subst e1;subst e2;rw[zYv hi hx]at hh;have T:=wYa d;have tset:∀(e:MixE Int) (b:Byt),Z.XOk d.flatten e→Z.xget d.flatten e=b→Tell d.flatten ((p1F d d.length).set i (((p1F d d.length).getD i []).set x e)) (wrB d (i:Int) ((x+1:Nat):Int) b):=fun e b he hb=>by rw[wZo];exact xYf T i x e b he hb
 have hPi:i<(p1F d d.length).length:=by rw[xXr];exact hi
 have hPn:((p1F d d.length).getD i []).length=d[i].length:=by rw[wKh d hi hi,xYp]
 obtain⟨q1,q2,q3⟩:=vQl hi hx;obtain⟨a1,a2⟩:=wQu d hi hx ([]:Byt);have hvl:=xYb hall (level:=(i:Int)) (bucket:=((x+1:Nat):Int));rw[zYv hi hx]at hvl;have hvb:(vers l (i:Int) ((x+1:Nat):Int)).length≤1000000:=by
  have:=yZ4 l (i:Int) ((x+1:Nat):Int) l.length;rw[Q2]at this;omega
 have hLB:=hB _ (Qh hi);have hbB:=hLB.2 _ (Qh hx);refine zQa p1 (zQa p2 (zQa p2 (zQb p3 ?_)));refine zQm (yQy l _ _ (by omega) (fun y hy=>by
  have:=(hall y hy).2.2;obtain⟨j,hj,z,hz,f1,f2⟩:=pl1.1 (hall y hy).2.1;rw[f1,f2,zYv hj hz]at this;have:=((hB _ (Qh hj)).2 _ (Qh hz)).2;omega)) ?_
 generalize vers l (i:Int) ((x+1:Nat):Int)=V at *;have sub:=sub1 (k:=x) (by omega)
 by_cases k1:kind=1
 ·rw[if_pos k1]at hh
  split at hh<;>(try (simp at hh;done))
  rename_i hc;obtain⟨m0,c0,c1⟩:=hc;simp only[Qd]at hh;obtain⟨n,rfl⟩:∃n:Nat,At=(n:Int):=⟨At.toNat,by omega⟩
  have hn:n<d[i][x].length:=by omega
  refine zQe (by simp[Z.ieq,k1]) ?_
  refine zQb sub (zQa q1 (zQa q2 (zQa q2 (zQb q3 ?_))));refine zQb sub (zQa q1 (zQa q2 (zQa q2 (zQb q3 ?_))));have r1:Z.Ix (n:Int) (Z.xlen (.ref ((d.take i).flatten.length+x) 0 d[i][x].length d[i][x].length:MixE Int)):=⟨by omega,by show(n:Int).toNat<_;exact hn⟩
  have r2:Z.XPt d.flatten (.ref ((d.take i).flatten.length+x) 0 d[i][x].length d[i][x].length:MixE Int) (Z.toN (n:Int)):=by
   simp only[Z.XPt,MixE.xpt,a2,decide_eq_true a1];simp[Z.toN,hn]
  refine zQa r1 (zQa r2 (zQa r2 (zQb (y:=d[i][x][n]) ?_ ?_)))
  ·show(d.flatten.getD _ []).getD (0+n) 0=_
   rw[a2,Jc];simp[List.getD,hn]
  refine zQb (y:=Z.bxor .u8 d[i][x][n] mask) rfl ?_;refine zQa r1 (zQa r2 (zQa r2 (zQb (y:=d'.flatten) ?_ ?_)))
  ·show d.flatten.set _ ((d.flatten.getD _ []).set (0+n) _)=_
   rw[a2,Jc,uQ8 d hi hx,←hh,xWm hi];simp[List.getD,hn]
  refine yW2 hd ?_;have ep:p1F d' d'.length=p1F d d.length:=by
   rw[←hh,xWm hi];exact uKv hi hx _ (by simp)
  rw[←ep];exact wYa d'
 refine zQd (by simp[Z.ieq,k1]) ?_
 rw[if_neg k1]at hh;by_cases k2:kind=2
 ·rw[if_pos k2]at hh
  split at hh<;>(try (simp at hh;done))
  rename_i hpB;obtain⟨i2,hi2,y,hy,f1,f2⟩:=pl1.1 hpB;have:i2=i:=by omega
  subst this;simp only[Qd]at hh;subst f2;rw[zYv hi2 hy]at hh;refine zQe (by simp[Z.ieq,k2]) ?_
  obtain⟨s1,s2,s3⟩:=vQl hi2 hy;have suby:=sub1 (k:=y) (by omega)
  obtain⟨b1,b2⟩:=wQu d hi2 hy ([]:Byt);refine zQb sub (zQa q1 (zQa q2 (zQa q2 (zQb q3 ?_))));refine zQb suby (zQa s1 (zQa s2 (zQa s2 (zQb s3 ?_))));refine zQb sub (zQa q1 (zQa q2 (zQa q2 (zQb rfl ?_))))
  have okr:∀(z:Nat) (hz:z<d[i2].length),Z.XOk d.flatten (.ref ((d.take i2).flatten.length+z) 0 d[i2][z].length d[i2][z].length:MixE Int)∧Z.xget d.flatten (.ref ((d.take i2).flatten.length+z) 0 d[i2][z].length d[i2][z].length:MixE Int)=d[i2][z]:=fun z hz=>by
   obtain⟨z1,z2⟩:=wQu d hi2 hz ([]:Byt);constructor
   ·simp only[Z.XOk,MixE.xok,z2,decide_eq_true z1];simp
   ·show((d.flatten.getD _ []).drop 0).take d[i2][z].length=_
    rw[z2,Jb,Q2]
  have T1:=tset _ _ (okr y hy).1 (okr y hy).2;have T2:=xYf T1 i2 y _ _ (okr x hx).1 (okr x hx).2;refine zQb suby (zQa s1 ?_);have pt:Z.XPt ((p1F d d.length).set i2 (((p1F d d.length).getD i2 []).set x (.ref ((d.take i2).flatten.length+y) 0 d[i2][y].length d[i2][y].length))) (.ref i2 0 d[i2].length d[i2].length:MixE (MixE Int)) (Z.toN (y:Int)):=by
   exact uW7 _ hPi hPn hy
  have pt':Z.XPt (Z.xset (p1F d d.length) (.ref i2 0 d[i2].length d[i2].length:MixE (MixE Int)) (Z.toN (x:Int)) (.ref ((d.take i2).flatten.length+y) 0 d[i2][y].length d[i2][y].length)) (.ref i2 0 d[i2].length d[i2].length:MixE (MixE Int)) (Z.toN (y:Int)):=by
   have e0:Z.xset (p1F d d.length) (.ref i2 0 d[i2].length d[i2].length:MixE (MixE Int)) (Z.toN (x:Int)) (.ref ((d.take i2).flatten.length+y) 0 d[i2][y].length d[i2][y].length)=(p1F d d.length).set i2 (((p1F d d.length).getD i2 []).set x (.ref ((d.take i2).flatten.length+y) 0 d[i2][y].length d[i2][y].length)):=by
    show(p1F d d.length).set i2 (((p1F d d.length).getD i2 []).set (0+x) _)=_;rw[Jc]
   rw[e0];exact pt
  refine zQa pt' (zQa pt' (zQb rfl ?_));refine yW2 hd ?_;rw[←hh];have e0:∀(P:List (List (MixE Int))) (z:Nat) (e:MixE Int),Z.xset P (.ref i2 0 d[i2].length d[i2].length:MixE (MixE Int)) (Z.toN (z:Int)) e=P.set i2 ((P.getD i2 []).set z e):=fun P z e=>by
   show P.set i2 ((P.getD i2 []).set (0+z) _)=_;rw[Jc]
  rw[e0,e0,wZo (wrB d (i2:Int) ((x+1:Nat):Int) d[i2][y]) i2 y];exact T2
 refine zQd (by simp[Z.ieq,k2]) ?_
 rw[if_neg k2]at hh;have e0:∀(P:List (List (MixE Int))) (z:Nat) (e:MixE Int),Z.xset P (.ref i 0 d[i].length d[i].length:MixE (MixE Int)) (Z.toN (z:Int)) e=P.set i ((P.getD i []).set z e):=fun P z e=>by
  show P.set i ((P.getD i []).set (0+z) _)=_;rw[Jc]
 have tdat:∀b:Byt,Tell d.flatten (Z.xset (p1F d d.length) (.ref i 0 d[i].length d[i].length:MixE (MixE Int)) (Z.toN (x:Int)) (Z.zY0 b)) (wrB d (i:Int) ((x+1:Nat):Int) b):=fun b=>by
  rw[e0];exact tset _ b rfl rfl
 by_cases k4:kind=4
 ·rw[if_pos k4]at hh
  refine zQd (by simp[Z.ieq,k4]) ?_
  refine zQe (by simp[Z.ieq,k4]) ?_
  refine zQb sub (zQb sub ?_);refine zQa q1 (zQa q2 (zQa q2 (zQb q3 ?_)));refine zQa (Z.zKh.2 ⟨by simp only[Z.ofN,Z.xlen];omega,Int.le_refl _,by simp only[Z.ofN,Z.xlen];omega,by simp only[Z.ofN,Z.xlen];omega⟩) ?_
  refine zQa q1 (zQa q2 (zQa (by simp only[Z.Le,Z.addN,Z.toN,Z.ofN,Z.len,Z.rep,Z.xlen,List.length_replicate];omega) (zQa q2 (zQb rfl ?_))))
  have er:Z.seg (Z.rep (α:=Int) (Z.toN (Z.ofN d[i][x].length)) 0) 0 (Z.toN (Z.ofN d[i][x].length))=List.replicate d[i][x].length 0:=by
   show((List.replicate d[i][x].length (0:Int)).drop 0).take d[i][x].length=_;rw[Jb,Qf (by simp)]
  by_cases v1:V.length=1
  ·rw[if_pos v1]at hh
   simp only[Qd]at hh;refine zQd (by simp only[Z.igt,Z.ofN,Z.len,v1];rfl) ?_
   refine yW2 hd ?_;rw[←hh,←er];exact tdat _
  ·rw[if_neg v1]at hh
   split at hh<;>(try (simp at hh;done))
   rename_i v2;simp only[Qd]at hh;obtain⟨m,hm⟩:∃m:Nat,V.length=m+2:=⟨V.length-2,by omega⟩
   have hmV:m<V.length:=by omega
   refine zQe (by simp only[Z.igt,Z.ofN,Z.len];simp;omega) ?_
   refine zQb sub (zQb (y:=(m:Int)) ((zY1 (by simp only[Z.sub,Z.ofN,Z.len];omega)).trans (by simp only[Z.sub,Z.ofN,Z.len];omega)) ?_)
   refine zQa (ixND hmV) (zQb (zWg V hmV _) ?_);refine zQa q1 ?_;have pt':Z.XPt (Z.xset (p1F d d.length) (.ref i 0 d[i].length d[i].length:MixE (MixE Int)) (Z.toN (x:Int)) (Z.zY0 (List.replicate d[i][x].length 0))) (.ref i 0 d[i].length d[i].length:MixE (MixE Int)) (Z.toN (x:Int)):=by
    rw[e0];exact uW7 _ hPi hPn hx
   have pt2:=pt';rw[←er]at pt2;refine zQa pt2 (zQa pt2 (zQb rfl ?_));refine yW2 hd ?_;have eg:V.getD (V.length-2) []=V[m]:=by rw[show V.length-2=m by omega];simp[List.getD,hmV]
   rw[eg]at hh;have T1:=tdat (Z.seg (Z.rep (α:=Int) (Z.toN (Z.ofN d[i][x].length)) 0) 0 (Z.toN (Z.ofN d[i][x].length)));have T2:=xYf T1 i x (Z.zY0 V[m]) V[m] rfl rfl
   have ew:(wrB d (i:Int) ((x+1:Nat):Int) (Z.seg (Z.rep (α:=Int) (Z.toN (Z.ofN d[i][x].length)) 0) 0 (Z.toN (Z.ofN d[i][x].length)))).set i (((wrB d (i:Int) ((x+1:Nat):Int) (Z.seg (Z.rep (α:=Int) (Z.toN (Z.ofN d[i][x].length)) 0) 0 (Z.toN (Z.ofN d[i][x].length)))).getD i []).set x V[m])=d':=by
    rw[←hh,←wZo];exact vXf hi _ _
   rw[ew]at T2;rw[e0];exact T2
 rw[if_neg k4]at hh;by_cases k3:kind=3
 ·rw[if_pos k3]at hh
  split at hh<;>(try (simp at hh;done))
  rename_i hc;simp only[Qd]at hh;obtain⟨m,rfl⟩:∃m:Nat,At=(m:Int):=⟨At.toNat,by omega⟩
  have hmV:m<V.length:=by omega
  refine zQe (by simp[Z.ieq,k3]) ?_
  refine zQb sub ?_;refine zQa (ixND hmV) (zQb (zWg V hmV _) ?_);refine zQa q1 (zQa q2 (zQa q2 (zQb rfl ?_)));refine yW2 hd ?_;have eg:V.getD (m:Int).toNat []=V[m]:=by simp[List.getD,hmV]
  rw[eg]at hh;rw[←hh];exact tdat _
 ·rw[if_neg k3]at hh
  simp at hh
end Go.Proofs.Ytghnechjgchajaa
