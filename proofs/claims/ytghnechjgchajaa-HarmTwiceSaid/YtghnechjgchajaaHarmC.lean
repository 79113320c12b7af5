/- Harms: done twice; what else is turned; the chapter's examples. -/
import Derived.Test.YtghnechjgchajaaHarmB
import Derived.Test.YtghnechjgchajaaBits8
namespace Go.Proofs.Ytghnechjgchajaa
open Go.Eng
set_option linter.unusedVariables false
set_option linter.unusedSimpArgs false
theorem vKb{d:List Lev}{i k:Nat}(hi:i<d.length)(hk:k<d[i].length):wrB d (i:Int) ((k+1:Nat):Int) d[i][k]=d:=by
 rw[yZo hi,List.set_getElem_self,List.set_getElem_self]
theorem vJj{α:Type}{l:List α}{i:Nat}(hi:i<l.length)(a z:α):(l.set i a).getD i z=a:=by
 rw[List.getD_eq_getElem?_getD,Qh hi];rfl
theorem wYm{d:List Lev}{i k:Nat}(hi:i<d.length)(b b':Byt):wrB (wrB d (i:Int) ((k+1:Nat):Int) b) (i:Int) ((k+1:Nat):Int) b'=wrB d (i:Int) ((k+1:Nat):Int) b':=by
 unfold wrB;rw[List.set_set,show((i:Int).toNat)=i from rfl,vJj hi,List.set_set]
theorem swap_swap{α:Type}(L M:List α){x y:Nat}(hx:x<L.length)(hy:y<L.length)(hx':x<M.length)(hy':y<M.length)(eL:M=(L.set x L[y]).set y L[x]):(M.set x M[y]).set y M[x]=L:=by
 subst eL;refine List.ext_getElem (by simp) fun k k1 k2=>?_
 simp only[List.getElem_set];by_cases hyk:y=k
 ·subst hyk
  by_cases hxy:x=y
  ·subst hxy;simp
  ·simp[hxy,Ne.symm hxy]
 ·by_cases hxk:x=k
  ·subst hxk;simp[hyk]
  ·simp[hyk,hxk]
theorem wKi{c:CfgT}{d d':List Lev}{l:List SeeT}{h:xXc}(hok:zZu c d)(hall:∀x∈l,zXm d x)(h5:¬h.1=5)(hh:hrm c d l h=some d'):
    ∃ (i:Nat) (hi:i<d.length) (x:Nat) (hx:x<d[i].length),h.2.1=(i:Int)∧h.2.2.1=((x+1:Nat):Int)∧
      ((h.1≠2∧∃b:Byt,b.length=d[i][x].length∧d'=wrB d (i:Int) ((x+1:Nat):Int) b)∨
       (h.1=2∧∃(y:Nat) (hy:y<d[i].length),h.2.2.2.1=((y+1:Nat):Int)∧d'=wrB (wrB d (i:Int) ((x+1:Nat):Int) d[i][y]) (i:Int) ((y+1:Nat):Int) d[i][x])):=by
  by_cases hp:plD d h.2.1 [h.2.2.1]
  rotate_left
  ·unfold hrm at hh;rw[if_neg h5,if_neg hp]at hh;simp at hh
  rw[xZu c d l h h5 hp]at hh;obtain⟨i,hi,x,hx,e1,e2⟩:=pl1.1 hp;have hb:bkt d h.2.1 h.2.2.1=d[i][x]:=by rw[e1,e2,zKm hi hx]
  have hvl:=wZb hall (level:=h.2.1) (bucket:=h.2.2.1);rw[hb]at hh hvl;refine⟨i,hi,x,hx,e1,e2, ?_⟩;rw[e1,e2]at hh hvl;split at hh
  · rename_i k1
    split at hh<;>(try (simp at hh;done))
    simp only[Qc]at hh;exact .inl ⟨by omega,_,by simp,hh.symm⟩
  rename_i k1;split at hh
  · rename_i k2
    split at hh<;>(try (simp at hh;done))
    rename_i hpB;obtain⟨i2,hi2,y,hy,f1,f2⟩:=pl1.1 hpB;have:i2=i:=by omega
    subst this;simp only[Qc]at hh;rw[f2,zKm hi2 hy]at hh;exact .inr ⟨k2,y,hy,f2,hh.symm⟩
  rename_i k2;split at hh
  · split at hh
    · simp only[Qc]at hh
      exact .inl ⟨k2,_,by simp,hh.symm⟩
    · split at hh<;>(try (simp at hh;done))
      rename_i v2;simp only[Qc]at hh;refine .inl ⟨k2,_,hvl _ ?_,hh.symm⟩;rw[List.getD_eq_getElem?_getD,Qq (by omega)]
      exact Qn _
  split at hh<;>(try (simp at hh;done))
  split at hh<;>(try (simp at hh;done))
  rename_i a;simp only[Qc]at hh;refine .inl ⟨k2,_,hvl _ ?_,hh.symm⟩;rw[List.getD_eq_getElem?_getD,Qq (by omega)]
  exact Qn _
theorem xJk{c:CfgT}{d d':List Lev}{l:List SeeT}{h:xXc}(hok:zZu c d)(hall:∀x∈l,zXm d x)(hh:hrm c d l h=some d'):dims d=dims d':=by
 by_cases h5:h.1=5
 ·unfold hrm at hh
  rw[if_pos h5]at hh;split at hh<;>(try (simp at hh;done))
  simp only[Qc]at hh;subst hh;obtain⟨k1,k2⟩:=wKw hok hall;have hr:=xYu (d:=nwS c) (l:=(wrL l).take h.2.2.2.2.1.toNat) (fun x hx=>k2 x (wYl (Kb hx))) _ (Qf _)
  rw[Jb]at hr;rw[←hr];exact vWg hok k1
 ·obtain⟨i,hi,x,hx,e1,e2,hw⟩:=wKi hok hall h5 hh
  rcases hw with⟨_,b,hb,rfl⟩|⟨_,y,hy,e3,rfl⟩
  ·exact yW8 rfl hi hx b hb
  ·have hi':i<(shS c).length:=by have:=hok.2.1;omega
   have hsame:d[i][y].length=d[i][x].length:=by
    obtain⟨_,hq⟩:=hok.2.2 i hi hi';have q1:=hq _ (Qn hx);have q2:=hq _ (Qn hy);omega
   exact yW8 (yW8 rfl hi hx _ (by omega)) hi hy _ (by omega)
theorem vXb{c:CfgT}{d d':List Lev}{l:List SeeT}{h:xXc}(hok:zZu c d)(hall:∀x∈l,zXm d x)(h5:¬h.1=5)(hh:hrm c d l h=some d'){i k:Nat}(hi:i<d.length)(hi':i<d'.length)(hk:k<d[i].length)(hk':k<d'[i].length)
  (hn:¬((i:Int)=h.2.1∧(((k+1:Nat):Int)=h.2.2.1∨(h.1=2∧((k+1:Nat):Int)=h.2.2.2.1)))):d'[i][k]=d[i][k]:=by
 obtain⟨j,hj,x,hx,e1,e2,hw⟩:=wKi hok hall h5 hh;have b1:bkt d' (i:Int) ((k+1:Nat):Int)=d'[i][k]:=zKm hi' hk';have b2:bkt d (i:Int) ((k+1:Nat):Int)=d[i][k]:=zKm hi hk
 rw[←b1,←b2];rcases hw with⟨_,b,hb,rfl⟩|⟨h2,y,hy,e3,rfl⟩
 ·rw[xW4 hj hx b (by omega) (by omega),if_neg fun hh=>hn ⟨by rw[e1];exact hh.1, .inl (by rw[e2];exact hh.2)⟩]
 ·have hd1:=yW8 (d:=d) (d':=d) rfl hj hx d[j][y] (by
   have hj':j<(shS c).length:=by have:=hok.2.1;omega
   obtain⟨_,hq⟩:=hok.2.2 j hj hj';have q1:=hq _ (Qn hx);have q2:=hq _ (Qn hy);omega)
  have hj2:j<(wrB d (j:Int) ((x+1:Nat):Int) d[j][y]).length:=by have:=zZe hd1;omega
  have hy2:y<(wrB d (j:Int) ((x+1:Nat):Int) d[j][y])[j].length:=by have:=zKs (zXx hd1 hj hj2);omega
  rw[xW4 hj2 hy2 _ (by omega) (by omega),if_neg fun hh=>hn ⟨by rw[e1];exact hh.1, .inr ⟨h2,by rw[e3];exact hh.2⟩⟩]
  rw[xW4 hj hx _ (by omega) (by omega),if_neg fun hh=>hn ⟨by rw[e1];exact hh.1, .inl (by rw[e2];exact hh.2)⟩]
theorem uZ0{c:CfgT}{d d':List Lev}{l:List SeeT}(hd:dims d=dims d')(hok:zZu c d)(hall:∀x∈l,zXm d x):zZu c d'∧∀x∈l,zXm d' x:=
 ⟨vWh hd hok,fun x hx=>(xQ6 hd x).1 (hall x hx)⟩
theorem vXa{c:CfgT}{d d':List Lev}{l:List SeeT}{h:xXc}(hok:zZu c d)(hall:∀x∈l,zXm d x)(hk:h.1=1∨h.1=2)(hb:∀L∈d,∀b∈L,∀v∈b,0≤v∧v<256)(hh:hrm c d l h=some d'):hrm c d' l h=some d:=by
 have h5:¬h.1=5:=by omega
 by_cases hp:plD d h.2.1 [h.2.2.1]
 rotate_left
 ·unfold hrm at hh;rw[if_neg h5,if_neg hp]at hh;simp at hh
 have hd:=xJk hok hall hh;have hp':=(wWw hd h.2.1 [h.2.2.1]).1 hp;rw[xZu c d' l h h5 hp'];rw[xZu c d l h h5 hp]at hh;obtain⟨i,hi,x,hx,e1,e2⟩:=pl1.1 hp;have hbk:bkt d h.2.1 h.2.2.1=d[i][x]:=by rw[e1,e2,zKm hi hx]
 rw[hbk]at hh;have hn:=zZe hd;have hi':i<d'.length:=by omega
 have hL:=zXx hd hi hi';have hx':x<d'[i].length:=by have:=zKs hL;omega
 have hbk':bkt d' h.2.1 h.2.2.1=d'[i][x]:=by rw[e1,e2,zKm hi' hx']
 rw[hbk'];rcases hk with k1|k2
 ·rw[if_pos k1]at hh⊢
  split at hh<;>(try (simp at hh;done))
  rename_i hc;obtain⟨m0,a0,a1⟩:=hc;simp only[Qc]at hh;obtain⟨n,hn⟩:∃n:Nat,h.2.2.2.2.1=(n:Int):=⟨h.2.2.2.2.1.toNat,by omega⟩
  rw[hn]at hh a1⊢;have hlt:n<d[i][x].length:=by omega
  rw[e1,e2]at hh⊢;have eg:d[i][x].getD (n:Int).toNat 0=d[i][x][n]:=by simp[List.getD,hlt]
  rw[eg]at hh;have hset:d'[i][x]=d[i][x].set n (Z.bxor .u8 d[i][x][n] h.2.2.2.2.2.1):=by
   have:bkt d' (i:Int) ((x+1:Nat):Int)=d[i][x].set n (Z.bxor .u8 d[i][x][n] h.2.2.2.2.2.1):=by
    rw[←hh,xW4 hi hx _ (by omega) (by omega),if_pos ⟨rfl,rfl⟩];rfl
   rw[zKm hi' hx']at this;exact this
  rw[hset,if_pos ⟨m0,by omega,by rw[List.length_set];omega⟩]
  congr 1;rw[←hh];have eg2:(d[i][x].set n (Z.bxor .u8 d[i][x][n] h.2.2.2.2.2.1)).getD (n:Int).toNat 0=Z.bxor .u8 d[i][x][n] h.2.2.2.2.2.1:=by
   simp[List.getD,hlt]
  have hr:=hb _ (Qn hi) _ (Qn hx) _ (Qn hlt);rw[eg2,vZb hr.1 hr.2];have e3:((d[i][x].set n (Z.bxor .u8 d[i][x][n] h.2.2.2.2.2.1)).set (n:Int).toNat d[i][x][n])=d[i][x]:=by
   show((d[i][x].set n _).set n _)=_;rw[List.set_set,List.set_getElem_self]
  rw[e3,wYm hi,vKb hi hx]
 ·rw[if_neg (by omega),if_pos k2]at hh⊢
  split at hh<;>(try (simp at hh;done))
  rename_i hpB;rw[if_pos ((wWw hd _ _).1 hpB)];obtain⟨i2,hi2,y,hy,f1,f2⟩:=pl1.1 hpB;have:i2=i:=by omega
  subst this;simp only[Qc]at hh⊢;rw[e1,e2,f2,zKm hi hy]at hh;rw[e1,e2,f2];have hy':y<d'[i2].length:=by have:=zKs hL;omega
  rw[zKm hi' hy'];have hi1:i2<(shS c).length:=by have:=hok.2.1;omega
  have hsame:d[i2][y].length=d[i2][x].length:=by
   obtain⟨_,hq⟩:=hok.2.2 i2 hi hi1;have q1:=hq _ (Qn hx);have q2:=hq _ (Qn hy);omega
  rw[yZo hi,yZo (by rw[List.length_set];exact hi),List.set_set,List.getElem_set_self]at hh
  have eL:d'[i2]=(d[i2].set x d[i2][y]).set y d[i2][x]:=by
   subst hh;rw[List.getElem_set_self]
  rw[yZo hi',yZo (by rw[List.length_set];exact hi'),List.set_set,List.getElem_set_self]
  have e4:=swap_swap d[i2] d'[i2] hx hy hx' hy' eL;rw[e4,←hh,List.set_set,List.set_getElem_self]
end Go.Proofs.Ytghnechjgchajaa
