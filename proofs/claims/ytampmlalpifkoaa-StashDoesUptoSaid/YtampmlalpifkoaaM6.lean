/- The engine, part 6. -/
import Derived.Test.YtampmlalpifkoaaM5
import Derived.Carry
import Derived.OpenShut
import Derived.FnData
set_option linter.unusedSimpArgs false
/- The evaluator over typed values says what the machine does. -/
namespace Go.Eng
set_option linter.unusedVariables false
structure Tr (S:List Nat) (t:List VV) (h:zQa) (m:List Nat) (t':List VV) (h':zQa) (m':List Nat):Prop where
 len:t'.length=t.length
 slots:∀i,i∉S→t'[i]?=t[i]?
 stays:zQe m' h h'
 sub:∀x∈m,x∈m'
theorem Tr.refl(S:List Nat)(t:List VV)(h:zQa)(m:List Nat):Tr S t h m t h m:=⟨rfl,fun _ _=>rfl,zQe.refl _ _,fun _ h=>h⟩
theorem Tr.trans{S1 S2 S:List Nat}{t t1 t2:List VV}{h h1 h2:zQa}{m m1 m2:List Nat}(a:Tr S1 t h m t1 h1 m1)(b:Tr S2 t1 h1 m1 t2 h2 m2)(k1:∀x∈S1,x∈S)(k2:∀x∈S2,x∈S):Tr S t h m t2 h2 m2:=
 ⟨b.len.trans a.len,fun i hi=>(b.slots i fun x=>hi (k2 i x)).trans (a.slots i fun x=>hi (k1 i x)),a.stays.trans b.stays b.sub,fun x hx=>b.sub x (a.sub x hx)⟩
theorem Tr.mono{S1 S:List Nat}{t t1:List VV}{h h1:zQa}{m m1:List Nat}(a:Tr S1 t h m t1 h1 m1)(k:∀x∈S1,x∈S):Tr S t h m t1 h1 m1:=
 ⟨a.len,fun i hi=>a.slots i fun x=>hi (k i x),a.stays,a.sub⟩
section
variable {P:Program} {c:Cfg} {vc:VCfg} {β:Type} {call:xXk β} {r:β}
theorem wKo(t:List VV)(d:Option Tmp)(v:VV):(putV t d v).length=t.length:=by cases d<;>simp[putV]
theorem yWe{ops:Array Oper}{i:Nat}{o:Oper}(ho:ops[i]?=some o)(t:List VV)(v:VV){h h':zQa}{m m':List Nat}(hs:zQe m' h h')(hm:∀x∈m,x∈m'):Tr (zW5 ops) t h m (putV t o.dst v) h' m':=by
 refine⟨wKo _ _ _,fun j hj=>?_,hs,hm⟩
 cases hd:o.dst with
 |none=>rfl
 |some d=>
  simp only[putV];refine Qd fun e=>hj ?_
  subst e;simp only[zW5,J0];refine⟨o, ?_,by simp[hd]⟩
  rw[Array.mem_toList_iff];exact Array.mem_of_getElem? ho
theorem yZ1(P:Program)(c:Cfg):yWh P c fun _ _ _=>none:=by intro f args H out vs H' h;simp at h
open Classical in
noncomputable def yZu(g:Who)(args:List CV)(H:Heap)(v:CV)(H':Heap):Who→List CV→Heap→Ans:=
 fun f a h=>if f=g∧a=args∧h=H then some (.ret,[v],H')else none
theorem yZt{f:Who}{args:List CV}{H H':Heap}{v:CV}(hF:zQo P c f args H .ret [v] H'∨xXi P f args H .ret [v] H')(hl:∀l,f=.yl l→∃o,H[l]?=some o∧∀N φ St w,Rel N φ St H w→φ l≠some .dead):yWh P c (yZu f args H v H'):=by
 intro g a h out vs h' he;unfold yZu at he;split at he<;>simp at he;rename_i hc;obtain⟨rfl,rfl,rfl⟩:=hc;obtain⟨rfl,rfl,rfl⟩:=he;exact⟨hF,hl⟩
theorem xZl{f:Who}{args:List CV}{H H':Heap}{v:CV}(hF:zQo P c f args H .ret [v] H')(hl:∀l,f=.yl l→∃o,H[l]?=some o∧∀N φ St w,Rel N φ St H w→φ l≠some .dead):yWh P c (yZu f args H v H'):=yZt (.inl hF) hl
theorem yYi(g:Who)(args:List CV)(H:Heap)(v:CV)(H':Heap):yZu g args H v H' g args H=some (.ret,[v],H'):=by simp[yZu]
theorem zZh(ok:vc.Ok P c)(t:List VV)(x:Operand):ev c.glob (t.map VV.cv) x=(evV vc.glob t x).cv:=evV_cv ok.glob t x
theorem Rel.wY5{N:Nat}{φ:Phi}{St:Stab}{H:Heap}{w:World}{cs cs':List CV}(R:Rel N φ St (H++[.cells cs]) w)(hw:CWs cs cs'):Rel N φ St (H++[.cells cs']) w:=by
 have hlen:(H++[HObj.cells cs']).length=(H++[HObj.cells cs]).length:=by simp
 have hold:∀b,b≠H.length→(H++[HObj.cells cs'])[b]?=(H++[HObj.cells cs])[b]?:=by
  intro b hb;by_cases h:b<H.length
  ·rw[Qb h,Qb h]
  ·rw[J2 (by simp;omega),J2 (by simp;omega)]
 have hat:(H++[HObj.cells cs])[H.length]?=some (.cells cs):=by simp
 have hat':(H++[HObj.cells cs'])[H.length]?=some (.cells cs'):=by simp
 refine⟨fun b e hb=>by rw[hlen];exact R.dom b e hb, ?_, ?_, ?_, ?_,R.inj,R.stLt,R.stOwn,R.stTail,R.start, ?_, ?_, ?_⟩
 ·intro b hb
  have:=R.dead b hb;by_cases h:b=H.length
  ·subst h;rw[hat]at this;simp at this
  ·rw[hold b h];exact this
 ·intro b r base size hb
  obtain⟨h1,cs0,a,e,h2,h3,h4,h5,h6⟩:=R.own b r base size hb;by_cases h:b=H.length
  ·subst h
   rw[hat]at h2;simp at h2;subst h2;refine⟨h1,cs',a,e,hat',h3,h4,by rw[←hw.1];exact h5,fun j c hc=>?_⟩
   have hj:j<cs.length:=by rw[hw.1];exact(List.getElem?_eq_some_iff.1 hc).1
   obtain⟨v,e1,e2⟩:=h6 j cs[j] (Qm hj);exact⟨v,e1,hw.2 j _ _ (Qm hj) hc _ _ _ _ e2⟩
  ·exact⟨h1,cs0,a,e,by rw[hold b h];exact h2,h3,h4,h5,h6⟩
 ·intro k r used u size hb
  obtain⟨h1,h2,h3⟩:=R.tail k r used u size hb;by_cases h:k=H.length
  ·subst h;rw[hat]at h2;simp at h2
  ·exact⟨h1,by rw[hold k h];exact h2,h3⟩
 ·intro b r hb
  obtain⟨h1,o,O,h2,h3,h4⟩:=R.obj b r hb;by_cases h:b=H.length
  ·subst h;rw[hat]at h2;simp at h2;subst h2;cases h4
  ·exact⟨h1,o,O,by rw[hold b h];exact h2,h3,h4⟩
 ·intro k u hb
  have:=R.void k u hb;by_cases h:k=H.length
  ·subst h;rw[hat]at this;simp at this
  ·rw[hold k h];exact this
 ·intro b rs hb
  by_cases h:b=H.length
  ·subst h
   obtain⟨css,h1,_⟩:=R.rows _ rs hb;rw[hat]at h1;simp at h1
  ·rw[hold b h];exact R.rows b rs hb
 ·intro b css hx
  by_cases h:b=H.length
  ·subst h;rw[hat']at hx;simp at hx
  ·rw[hold b h]at hx;exact R.rdom b css hx
theorem zXb.vYm(hc:c.Ok P){rd:Option Nat}{ops:Array Oper}{i:Nat}{l:List Nat}{o:Oper}{v:CV}{tmps tmps':List CV}{H H':Heap}{out:Out}{cs cs':List CV}(ho:ops[i]? =some o)(hw:zWn ops tmps o=some true)
  (hq:opQ c.ty H H.length (ev c.glob tmps) o.op=some (v,some (.cells cs))) (hcw:CWs cs cs')
  (hx:zXb P c rd ops l (putC tmps o.dst v) (H++[.cells cs']) out tmps' H'):zXb P c rd ops (i::l) tmps H out tmps' H':=by
 intro N φ St w a ro R hg hr ht;simp only[wpOpsIn,ho];rw[zX6 ht hw];refine yXx hc.ty hq (R.longer [.cells cs] (fun o ho css=>by simp at ho;subst ho;simp)) (Sub.append _ _) (fun b hb=>⟨R.yJn,by simp at hb;subst hb;simp⟩) (fun x _=>yXf hg ht x) ?_
 intro φ1 w1 u R1 F1 _ hu;have l1:Left N φ St H w (H++[.cells cs']) φ1 St w1:=⟨R1.wY5 hcw,F1,Keep.append _ _ _⟩;exact Post.yYj l1 (zQ1 _ _ _) (hx N φ1 St w1 _ ro (R1.wY5 hcw) (hg.mono F1.toMono) (hr.mono F1.toMono) (zKy (ht.mono F1.toMono) o.dst hu))
theorem wYy:∀{xs ys:List CV},zcw xs ys=true→CWs xs ys
 |[],ys,h=>by
  simp only[zcw,List.isEmpty_iff]at h;subst h;exact⟨rfl,fun i x y hx=>by simp at hx⟩
 | x::xs,ys,h=>by
  simp only[zcw]at h;split at h
  ·simp at h
  ·rename_i y ys
   simp only[Qc]at h;obtain⟨hl,hw⟩:=wYy h.2;have h1:CW x y:=by
    have:=h.1;split at this
    ·exact CW.nsl _
    ·rw[CV.same_eq _ _ this];exact CW.refl _
   refine⟨by simp[hl],fun i a b ha hb=>?_⟩
   cases i with
   |zero=>simp at ha hb;subst ha;subst hb;exact h1
   |succ i=>exact hw i a b (by simpa using ha) (by simpa using hb)
theorem CWs.append{as as' bs bs':List CV}(h:CWs as as')(k:CWs bs bs'):CWs (as++bs) (as'++bs'):=by
 refine⟨by simp[h.1,k.1],fun i x y hx hy=>?_⟩
 by_cases hi:i<as.length
 ·rw[Qb hi]at hx
  rw[Qb (by rw[←h.1];exact hi)]at hy
  exact h.2 i x y hx hy
 ·rw[Qj (by omega)]at hx
  rw[Qj (by rw[←h.1];omega),←h.1]at hy
  exact k.2 _ x y hx hy
theorem CWs.zeros{z z':List CV}(h:CWs z z'):∀n,CWs (zWs n z) (zWs n z')
 |0=>⟨rfl,fun i x y hx=>by simp[zWs]at hx⟩
 |n+1=>by
  simp only[zWs,Kl,We];exact CWs.append h (CWs.zeros h n)
theorem wZ5(c:C)(d:El c):∀n,vecC c (List.replicate n d)=zWs n (valC c d).flat
 |0=>rfl
 |n+1=>by
  have:=wZ5 c d n;simp only[vecC,zWs,Kl,Qo,We]at this⊢;rw[this]
theorem vK8{ty:Ty}{h:zQa}{ρ:Operand→VV}{ρc:Operand→CV}(hρ:∀x,ρc x=(ρ x).cv){o:Op}{K:VV→zQa→Option β}(he:uWs ty h ρ o K=some r):
  ∃v h' cs cs',K v h'=some r∧opQ ty (hc h) (hc h).length ρc o=some (v.cv,some (.cells cs))∧CWs cs cs'∧hc h'=hc h++[.cells cs']∧∃b,h'=h++[b]:=by
 unfold uWs at he;split at he<;>(try (simp at he;done))
 rename_i t lo mo;split at he<;>(try (simp at he;done))
 rename_i i k1 l k2 cc hi hlo hmo;split at he<;>(try (simp at he;done))
 rename_i e hd;split at he<;>(try (simp at he;done))
 rename_i j c hj hce;split at he<;>(try (simp at he;done))
 rename_i hcond;obtain⟨hz,hs⟩:=hcond;split at he<;>(try (simp at he;done))
 rename_i hn;refine⟨_,_,zWs cc.toNat j.zero,vecC c (List.replicate cc.toNat (dfl c)),he, ?_, ?_,by simp[hc,VObj.ho],⟨_,rfl⟩⟩
 ·have hn':0≤l∧l≤cc∧cc<2^40∧j.bytes*cc≤2^48:=Z.zYx.1 hn
  simp only[opQ,zX7,hρ,hlo,hmo,VV.cv,hi,hd,hj,zW8];rw[Qf hn'];simp[mkC,hs]
 ·rw[wZ5]
  exact CWs.zeros (wYy hz) _
theorem wKx(hc:c.Ok P){rd:Option Nat}{ops:Array Oper}{i n esz len cap:Nat}{l:List Nat}{o:Oper}{tmps tmps':List CV}{H H':Heap}{out:Out}(ho:ops[i]? =some o)(hw:zWn ops tmps o=some true)
  (hq:opQ c.ty H H.length (ev c.glob tmps) o.op=some (.sref 1 H.length 0 len cap true,some (.cells (List.replicate n (.slice 0 [] none true)))))
  (hx:zXb P c rd ops l (putC tmps o.dst (.sref 1 H.length 0 len cap true)) (H++[.cells ((List.range n).map fun k=>.gref esz (H.length+1) k 0 0 0), .rows (List.replicate n [])]) out tmps' H'):zXb P c rd ops (i::l) tmps H out tmps' H':=by
 intro N φ St w a ro R hg hr ht;simp only[wpOpsIn,ho];rw[zX6 ht hw];refine yXx hc.ty hq (R.longer [.cells (List.replicate n (.slice 0 [] none true))] (fun o ho css=>by simp at ho;subst ho;simp)) (Sub.append _ _) (fun b hb=>⟨R.yJn,by simp at hb;subst hb;simp⟩) (fun x _=>yXf hg ht x) ?_
 intro φ1 w1 u R1 F1 _ hu;obtain⟨r,base,size,rcap,hφ,_⟩:=zQn R1 hu (by simp[live])
 have hlen:(H++[HObj.cells (List.replicate n (.slice 0 [] none true))]).length=H.length+1:=by simp
 obtain⟨R2,F2⟩:=R1.yWr n;rw[hlen]at R2 F2;have hφ2:(φ1.put (H.length+1) (.rows (List.replicate n ⟨none,0⟩))) H.length=some (.own r base size):=by rw[zQc _ _ _ _ (by omega)];exact hφ
 have hput:(φ1.put (H.length+1) (.rows (List.replicate n ⟨none,0⟩))).put H.length (.own r base size)=φ1.put (H.length+1) (.rows (List.replicate n ⟨none,0⟩)):=xKp hφ2;have hget:(H++[HObj.cells (List.replicate n (CV.slice 0 [] none true))]++[HObj.rows (List.replicate n [])])[H.length]?=some (.cells (List.replicate n (.slice 0 [] none true))):=by simp
 have R3:Rel N (φ1.put (H.length+1) (.rows (List.replicate n ⟨none,0⟩))) St (H++[.cells ((List.range n).map fun k=>.gref esz (H.length+1) k 0 0 0), .rows (List.replicate n [])]) w1:=by
  have:=R2.change H.length (.own r base size) (.cells ((List.range n).map fun k=> .gref esz (H.length+1) k 0 0 0)) St (H++[.cells ((List.range n).map fun k=> .gref esz (H.length+1) k 0 0 0), .rows (List.replicate n [])]) w1 (by rw[hput];exact Mono.refl _ _ _) (Qe _) (by simp) (by simp)
   (fun b' e hne hb'=>by
    have:=R2.dom b' e hb';simp at this;by_cases h:b'<H.length
    ·rw[Qb h,Jn,Qb h]
    ·have:b'=H.length+1:=by omega
     subst this;simp)
   (fun _ _ _ _ _ _=>rfl) R2.stLt (fun _ _ hs=>.inl hs)
   (fun x hx b' e hne hb' he=>by
    simp only[Ent.has]at hx;subst hx;exact hne (R2.inj b' H.length e _ r hb' hφ2 he rfl))
   (by
    rw[hput];obtain⟨q1,cs,arr,elem,q2,q3,q4,q5,q6⟩:=R2.own _ _ _ _ hφ2;rw[hget]at q2;simp only[Qa,HObj.cells.injEq]at q2;subst q2;refine⟨q1,_,arr,elem,rfl,q3,q4,by simpa using q5,fun j c hj=>?_,fun j=>R2.stOwn _ _ _ _ j hφ2⟩
    have hjn:j<n:=by have:=(List.getElem?_eq_some_iff.1 hj).1;simpa using this
    rw[Qt,List.getElem?_range hjn]at hj;simp at hj;subst hj;obtain⟨v,e1,e2⟩:=q6 j _ (List.getElem?_replicate_of_lt hjn);exact⟨v,e1,wWv (zQg _ _ _) e2⟩)
   (fun b' css hne hx=>by
    by_cases h:b'<H.length
    ·rw[Qb h]at hx
     rw[Jn,Qb h];exact hx
    ·have hl:=(List.getElem?_eq_some_iff.1 hx).1
     simp at hl;have:b'=H.length+1:=by omega
     subst this;simp at hx⊢;exact hx)
  rw[hput]at this;exact this
 have l1:Left N φ St H w _ _ St w1:=⟨R3,F1.trans F2 (by omega),Keep.append _ _ _⟩
 exact Post.yYj l1 (zQ1 _ _ _) (hx N _ St w1 _ ro R3 ((hg.mono F1.toMono).mono F2.toMono) ((hr.mono F1.toMono).mono F2.toMono) (zKy ((ht.mono F1.toMono).mono F2.toMono) o.dst (hu.mono F2.toMono)))
theorem xYo(b:Nat)(c:C)(n:Nat):vecC (.mix b c) (Z.vKa n)=(List.range n).map fun k=>.gref c.cells b k 0 0 0:=by
 unfold vecC Z.vKa;rw[Q6];have:∀k:Nat,(valC (.mix b c) (MixE.ref k 0 0 0)).flat=[.gref c.cells b k 0 0 0]:=fun k=>by simp[valC,mixC,CV.flat]
 simp only[this];induction List.range n with
 |nil=>rfl
 |cons x l ih=>rw[Qo,Qg,ih];rfl
theorem vJa{ty:Ty}{h:zQa}{ρ:Operand→VV}{ρc:Operand→CV}(hρ:∀x,ρc x=(ρ x).cv){o:Op}{K:VV→zQa→Option β}(he:uWu ty h ρ o K=some r):
  ∃v h' n len cap esz,K v h'=some r∧v.cv= .sref 1 h.length 0 len cap true∧opQ ty (hc h) (hc h).length ρc o=some (v.cv,some (.cells (List.replicate n (.slice 0 [] none true))))∧
   hc h'=hc h++[.cells ((List.range n).map fun k=>.gref esz (h.length+1) k 0 0 0), .rows (List.replicate n [])]∧∃k,h'=h++k:=by
 unfold uWu at he;split at he<;>(try (simp at he;done))
 rename_i t lo mo;split at he<;>(try (simp at he;done))
 rename_i i k1 l k2 cc hi hlo hmo;split at he<;>(try (simp at he;done))
 rename_i e hd;split at he<;>(try (simp at he;done))
 rename_i j c hj hce;split at he<;>(try (simp at he;done))
 rename_i hz;split at he<;>(try (simp at he;done))
 rename_i hs;split at he<;>(try (simp at he;done))
 rename_i hn;have hn':0≤l∧l≤cc∧cc<2^40∧j.bytes*cc≤2^48:=Z.zYx.1 hn;refine⟨_,_,cc.toNat,l.toNat,cc.toNat,c.cells,he,rfl, ?_, ?_,⟨_,rfl⟩⟩
 ·simp only[opQ,zX7,hρ,hlo,hmo,VV.cv,hi,hd,hj,zW8]
  rw[Qf hn'];simp[mkC,hs,hz,zWs,C.cells]
 ·have e:=xYo (h.length+1) c (Z.toN cc)
  have e2:(Z.rep (Z.toN cc) ([]:List (El c))).map (vecC c)=List.replicate cc.toNat []:=by simp[Z.rep,vecC]
  simp only[hc,Qw,Qg,Q8,VObj.ho,e,e2]
theorem vK9{ty:Ty}{h:zQa}{ρ:Operand→VV}{ρc:Operand→CV}(hρ:∀x,ρc x=(ρ x).cv){o:Op}{K:VV→zQa→Option β}(he:uWt ty h ρ o K=some r):
  ∃v h' e2 n len cap esz,K v h'=some r∧v.cv= .sref 1 (hc (h++[.rows e2 []])).length 0 len cap true∧opQ ty (hc (h++[.rows e2 []])) (hc (h++[.rows e2 []])).length ρc o=some (v.cv,some (.cells (List.replicate n (.slice 0 [] none true))))∧
   hc h'=hc (h++[.rows e2 []])++[.cells ((List.range n).map fun k=>.gref esz ((hc (h++[.rows e2 []])).length+1) k 0 0 0), .rows (List.replicate n [])]∧∃k,h'=h++k:=by
 unfold uWt at he;split at he<;>(try (simp at he;done))
 rename_i t lo mo;split at he<;>(try (simp at he;done))
 rename_i i k1 l k2 cc hi hlo hmo;split at he<;>(try (simp at he;done))
 rename_i e hd;split at he<;>(try (simp at he;done))
 rename_i j c hj hce;split at he<;>(try (simp at he;done))
 rename_i c2 e2 hdp;split at he<;>(try (simp at he;done))
 rename_i hz;split at he<;>(try (simp at he;done))
 rename_i hs;split at he<;>(try (simp at he;done))
 rename_i hn;have hn':0≤l∧l≤cc∧cc<2^40∧j.bytes*cc≤2^48:=Z.zYx.1 hn;have hl:(hc (h++[VObj.rows e2 []])).length=h.length+1:=by rw[zW8];simp
 refine⟨_,_,e2,cc.toNat,l.toNat,cc.toNat,c2.cells,he,by rw[hl];rfl, ?_, ?_,⟨_,by rw[Jn]⟩⟩
 ·rw[hl]
  simp only[opQ,zX7,hρ,hlo,hmo,VV.cv,hi,hd,hj];rw[Qf hn'];simp[mkC,hs,hz,zWs,C.cells]
 ·rw[hl]
  have e:=xYo (h.length+2) c2 (Z.toN cc);have e2:(Z.rep (Z.toN cc) ([]:List (El c2))).map (vecC c2)=List.replicate cc.toNat []:=by simp[Z.rep,vecC]
  simp only[hc,Qw,Qg,Q8,VObj.ho,e,e2]
theorem vWu{rd:Option Nat}{ops:Array Oper}{l:List Nat}{T T':List CV}{h:zQa}{e:C}{H':Heap}{out:Out}
  (hx:zXb P c rd ops l T (hc (h++[.rows e []])) out T' H'):zXb P c rd ops l T (hc h) out T' H':=by
 intro N φ St w a ro R hg hr ht;obtain⟨R1,F1⟩:=R.yWr 0;have eh:hc (h++[VObj.rows e []])=hc h++[HObj.rows (List.replicate 0 [])]:=by simp[hc,VObj.ho]
 have L:Left N φ St (hc h) w (hc (h++[VObj.rows e []])) _ St w:=⟨by rw[eh];exact R1,F1,by rw[eh];exact Keep.append _ _ _⟩
 exact Post.yYj L rfl (hx N _ St w a ro L.rel (hg.mono L.frm.toMono) (hr.mono L.frm.toMono) (ht.mono L.frm.toMono))
theorem wJl{c:C}:∀{vs:List VV} {ds:List (El c)},deWl c vs=some ds→CWs (vs.map VV.cv) (ds.map (valC c))
 |[],ds,h=>by simp[deWl]at h;subst h;exact⟨rfl,fun i x y hx=>by simp at hx⟩
 |v::vs,ds,h=>by
  simp only[deWl]at h;split at h<;>simp at h;rename_i d ds' h1 h2;subst h;obtain⟨hl,hw⟩:=wJl h2;refine⟨by simp at hl⊢;exact hl,fun i x y hx hy=>?_⟩
  cases i with
  |zero=>simp at hx hy;subst hx;subst hy;exact yYo h1
  |succ i=>exact hw i x y (by simpa using hx) (by simpa using hy)
theorem CWs.refl(cs:List CV):CWs cs cs:=⟨rfl,fun i x y hx hy=>by rw[hx]at hy;simp at hy;subst hy;exact CW.refl _⟩
theorem vJj{c:C}(h:c.isL=true)(ds:List (El c)):vecC c ds=ds.map (valC c):=by
 rw[←xJm h ds,Q6];rfl
theorem wWh{ty:Ty}{h:zQa}{ρ:Operand→VV}{ρc:Operand→CV}(hρ:∀x,ρc x=(ρ x).cv){o:Op}{K:VV→zQa→Option β}(he:wJo ty h ρ o K=some r):
  ∃v h' cs cs',K v h'=some r∧opQ ty (hc h) (hc h).length ρc o=some (v.cv,some (.cells cs))∧CWs cs cs'∧hc h'=hc h++[.cells cs']∧∃b,h'=h++[b]:=by
 unfold wJo at he;split at he<;>(try (simp at he;done))
 rename_i t len parts;obtain⟨v,o,k1,k2⟩:=yZm he;have q:opQ ty (hc h) (hc h).length ρc (.buildSlice t len parts)=some (v.cv,some o.ho):=by
  simp only[opQ,zW8,vKz hρ];exact xK9 k2
 have isC:∃cs,o.ho=.cells cs:=by
  unfold zX3 at k2;split at k2<;>(try (simp at k2;done))
  split at k2<;>(try (simp at k2;done))
  split at k2<;>(try (simp at k2;done))
  split at k2<;>(try (simp at k2;done))
  split at k2<;>(try (simp at k2;done))
  simp only[Qa,Je]at k2;exact⟨_,k2.2.symm⟩
 split at k1
 ·rename_i vs hv0
  simp only[Qa]at hv0;subst hv0;split at k1<;>(try (simp at k1;done))
  rename_i n off l cap ex c;split at k1<;>(try (simp at k1;done))
  rename_i hL;split at k1
  ·rename_i ds hds
   exact⟨_,_,_,_,k1,q,wJl hds,by simp[hc,VObj.ho,vJj hL],⟨_,rfl⟩⟩
  ·exact⟨_,_,_,_,k1,q,CWs.refl _,by simp[hc,VObj.ho],⟨_,rfl⟩⟩
 ·rename_i b hb0
  simp only[Qa]at hb0;subst hb0;obtain⟨cs,hcs⟩:=isC;rw[hcs]at q;exact⟨_,_,_,_,k1,q,CWs.refl _,by simp[hc,hcs],⟨_,rfl⟩⟩
 ·simp at k1
theorem fgt_cw(draw:Bool)(nl:Nat)(v:VV):CW v.cv (fgtV draw nl v).cv:=by
 unfold fgtV;split
 ·exact CW.refl _
 ·split
  ·split
   ·simp only[VV.cv];exact CW.slice _ _ _ _
   ·exact CW.refl _
  ·exact CW.refl _
theorem vK2{rd:Option Nat}{ops:Array Oper}{l:List Nat}{T T':List CV}{d:Option Tmp}{v v':CV}{H H':Heap}{out:Out}(hcw:CW v v')(hx:zXb P c rd ops l (putC T d v') H out T' H'):zXb P c rd ops l (putC T d v) H out T' H':=by
 intro N φ St w a ro R hg hr ht;refine hx N φ St w a ro R hg hr ?_;cases d with
 |none=>exact ht
 | some d=>
  simp only[putC]at ht⊢;by_cases hd:d<T.length
  ·obtain⟨u,h1,h2⟩:=ht.get d v (by rw[Qk hd])
   have h3:=ht.set d (hcw _ _ _ _ h2);rw[List.set_set,set_self h1]at h3;exact h3
  ·have e:∀x,T.set d x=T:=fun x=>List.set_eq_of_length_le (Nat.le_of_not_lt hd)
   rw[e]at ht⊢;exact ht
theorem wXw{nl n:Nat}{d:Option Tmp}{v:VV}{h:zQa}{m:List Nat}{K:VV→zQa→List Nat→Option β}(he:layQ nl n d v h m K=some r):
  ∃v2 h2 m2,K v2 h2 m2=some r∧((v2=v∧h2=h)∨((∃i,d=some i∧i<n)∧yQp [v] h [v2] h2))∧zQe m2 h h2∧∀y∈m,y∈m2:=by
 have same:K v h m=some r→∃v2 h2 m2,K v2 h2 m2=some r∧((v2=v∧h2=h)∨((∃i,d=some i∧i<n)∧yQp [v] h [v2] h2))∧zQe m2 h h2∧∀y∈m,y∈m2:=
  fun hk=>⟨v,h,m,hk, .inl ⟨rfl,rfl⟩,zQe.refl _ _,fun _ h=>h⟩
 unfold layQ at he;split at he
 ·split at he
  ·rename_i i
   split at he<;>(try (simp at he;done))
   rename_i hlt;split at he
   ·obtain⟨vs,h2,m2,k0,k1,k2,k3,k4⟩:=vXc he
    split at k0<;>(try (simp at k0;done))
    exact⟨_,h2,m2,k0, .inr ⟨⟨i,rfl,Nat.blt_eq▸hlt⟩,k2⟩,k3,k4⟩
   ·exact same he
  ·exact same he
 ·exact same he
theorem wXn{rd:Option Nat}{ops:Array Oper}{l:List Nat}{T T':List CV}{d:Option Tmp}{v v2:VV}{h h2:zQa}{H':Heap}{out:Out}(hor:(v2=v∧h2=h)∨((∃i,d=some i∧i<T.length)∧yQp [v] h [v2] h2))
  (hx:zXb P c rd ops l (putC T d v2.cv) (hc h2) out T' H'):zXb P c rd ops l (putC T d v.cv) (hc h) out T' H':=by
 rcases hor with⟨rfl,rfl⟩|⟨⟨i,rfl,hi⟩,g⟩
 ·exact hx
 ·intro N φ St w a ro R hg hr ht
  simp only[putC]at ht hx;obtain⟨u,h1,h3⟩:=ht.get i v.cv (by rw[Qk hi])
  obtain⟨φ',L,hu⟩:=g N φ St w [u] R (.cons _ _ _ _ h3 .nil);have hv2:VR φ' St w v2.cv u:=by
   obtain⟨u',g1,g2⟩:=hu.get 0 v2.cv rfl;simp at g1;subst g1;exact g2
  have ht2:VRL φ' St w (T.set i v2.cv) a.tmps.toList:=by
   have:=(ht.mono L.frm.toMono).set i hv2;rw[List.set_set,set_self h1]at this;exact this
  exact Post.yYj L rfl (hx N φ' St w a ro L.rel (hg.mono L.frm.toMono) (hr.mono L.frm.toMono) ht2)
theorem uW8{v:VV}{h:zQa}{K:VV→zQa→Option β}(he:frzB v h K=some r):∃v2,K v2 (yW9 v.blk h)=some r∧
  ∀N φ St w u,Rel N φ St (hc h) w→VR φ St w v.cv u→VR Phi0 (fun r j=>St r j∨zQf φ (hc h) v.blk r j) w v2.cv u∧∀b∈v.blk,zJa φ b:=by
 unfold frzB at he;split at he<;>(try (simp at he;done))
 rename_i b off len cap ex c;split at he<;>(try (simp at he;done))
 rename_i hp;obtain⟨d,h1,h2⟩:=xJ7 (c:=.list c) hp (by simp[mix1,hp]) he
 refine⟨_,h1,fun N φ St w u R hu=>?_⟩
 have:=h2 N φ St w u R hu;simpa[zXw,VV.blk,zQv]using this
theorem uWm(hc:c.Ok P){rd:Option Nat}{ops:Array Oper}{i:Nat}{l:List Nat}{o:Oper}{v c2:CV}{tmps tmps':List CV}{H H':Heap}{out:Out}{cs cs':List CV}{bs:List Nat}(ho:ops[i]? =some o)(hw:zWn ops tmps o=some true)
    (hq:opQ c.ty H H.length (ev c.glob tmps) o.op=some (v,some (.cells cs))) (hcw:CWs cs cs')
    (hk:∀N φ St w u,Rel N φ St (H++[.cells cs']) w→VR φ St w v u→VR Phi0 (fun r j=>St r j∨zQf φ (H++[.cells cs']) bs r j) w c2 u∧∀b∈bs,zJa φ b)
    (hx:zXb P c rd ops l (putC tmps o.dst c2) (zZv bs (H++[.cells cs'])) out tmps' H'):zXb P c rd ops (i::l) tmps H out tmps' H':=by
  intro N φ St w a ro R hg hr ht;simp only[wpOpsIn,ho];rw[zX6 ht hw];refine yXx hc.ty hq (R.longer [.cells cs] (fun o ho css=>by simp at ho;subst ho;simp)) (Sub.append _ _) (fun b hb=>⟨R.yJn,by simp at hb;subst hb;simp⟩) (fun x _=>yXf hg ht x) ?_
  intro φ1 w1 u R1 F1 _ hu;have R1':=R1.wY5 hcw;obtain⟨e1,e2⟩:=hk N φ1 St w1 u R1' hu;obtain⟨φ2,R2,F2,k1,k2,k3⟩:=yX4 bs R1' e2;have hX:∀r j,zQf φ1 (H++[.cells cs']) bs r j→r<w1.heap.size∧∀b e,φ2 b=some e→¬e.has r:=by
    rintro r j ⟨b,hb,base,size,cs,hφ,_⟩;refine⟨(R1'.lt hφ rfl).2,fun b' e' hb' he=>?_⟩
    rcases k1 b' e' hb' with rfl|h
    ·simp[Ent.has]at he
    · have:=R1'.inj b' b e' _ r h hφ he rfl
      subst this;rw[k2 b' hb]at hb';simp at hb';subst hb';simp[Ent.has]at he
  have R3:=R2.wQp hX;have m3:Mono φ2 St w1 φ2 (fun r j=>St r j∨zQf φ1 (H++[.cells cs']) bs r j) w1:=⟨fun _=>.refl _,fun _ _ h=>.inl h,fun _ _ _=>rfl⟩
  have F3:Frm (H++[HObj.cells cs']).length φ1 St w1 φ2 (fun r j=>St r j∨zQf φ1 (H++[.cells cs']) bs r j) w1:=
    { ext:=F2.ext,st:=fun _ _ h=> .inl h,keep:=fun _ _ _=>rfl,size:=Qe _,
      stNew:=fun r j h=>by
        rcases h with h|⟨b,_,base,size,cs,hφ,_⟩
        ·exact .inl h
        ·exact .inr (.inr ⟨b,_,hφ,rfl⟩),
      blkNew:=F2.blkNew,keepBlk:=fun _ _ _=>rfl,idNew:=F2.idNew,os:=rfl,output:=rfl,tape:=rfl}
  have l1:Left N φ St H w (zZv bs (H++[.cells cs'])) φ2 _ w1:=⟨R3,F1.trans F3 (by simp),by
    refine⟨by rw[zKs];simp,fun b hb hn=>?_⟩
    rw[zXi bs _ fun hm=>?_]
    ·exact Qb hb
    · have:=F1.idNew b hb hn
      rcases e2 b hm with⟨_,_,_,h⟩|h<;>rw[this]at h<;>simp at h⟩
  have mv:VR φ2 (fun r j=>St r j∨zQf φ1 (H++[.cells cs']) bs r j) w1 c2 u:=e1.mono ⟨fun _=>.fresh _,fun _ _ h=>h,fun _ _ _=>rfl⟩
  exact Post.yYj l1 (zQ1 _ _ _) (hx N _ _ w1 _ ro R3 (((hg.mono F1.toMono).mono F2.toMono).mono m3) (((hr.mono F1.toMono).mono F2.toMono).mono m3) (zKy (((ht.mono F1.toMono).mono F2.toMono).mono m3) o.dst mv))
theorem uXe{ρ:Operand→VV}{ρc:Operand→CV}(hρ:∀x,ρc x=(ρ x).cv){lo ro:Op}(h:farV ρ lo ro=true):farC ρc lo ro=true:=by
 unfold farV at h;split at h<;>(try (simp at h;done))
 split at h<;>(try (simp at h;done))
 rename_i b _ b' _ ha ha';simp only[farC,hρ,ha,ha',VV.cv];exact h
theorem yW6{h h2:Heap}{b:Nat}(e:h2[b]?=h[b]?):live h2 b=live h b:=by unfold live;rw[e]
theorem yWo{h h2:Heap}{b k gen:Nat}(e:h2[b]?=h[b]?):rowG h2 b k gen=rowG h b k gen:=by unfold rowG;rw[e]
def plcC:CV→Option Nat
 | .ptr b _=>some b
 | .sref _ b _ _ _ _=>some b
 | .gref _ b _ _ _ _=>some b
 | .gptr b _ _ _=>some b
 |_=>none
theorem wYg{ty:Ty}{h h2:Heap}{t:TypeId}{x:CV}(e:∀b,plcC x=some b→h2[b]?=h[b]?):yJs ty h2 t x=yJs ty h t x:=by
 unfold yJs;cases ty t with
 |none=>rfl
 |some j=>cases x with
  |ptr b off=>simp only[];rw[e b rfl]
  |gptr b k off gen=>simp only[];rw[yWo (e b rfl)]
  |_=>rfl
theorem xWx{ty:Ty}{h h2:Heap}{t:TypeId}{x:CV}{f:Nat}(e:∀b,plcC x=some b→h2[b]?=h[b]?):zXo ty h2 t x f=zXo ty h t x f:=by
 cases x with
 |ptr b off=>unfold zXo;simp only[yW6 (e b rfl)]
 |gptr b k off gen=>unfold zXo;simp only[yWo (e b rfl)]
 |_=>rfl
theorem xXv{h h2:Heap}{x:CV}(e:∀b,plcC x=some b→h2[b]?=h[b]?):zW6 h2 x=zW6 h x:=by
 cases x with
 |ptr b off=>unfold zW6;simp only[yW6 (e b rfl)]
 |gptr b k off gen=>unfold zW6;simp only[yWo (e b rfl)]
 |_=>rfl
theorem xWs{ty:Ty}{h h2:Heap}{t:TypeId}{x i:CV}(e:∀b,plcC x=some b→h2[b]?=h[b]?):zXg ty h2 t x i=zXg ty h t x i:=by
 cases x with
 |ptr b off=>unfold zXg;simp only[yW6 (e b rfl)]
 |sref esz b off len cap ex=>unfold zXg;simp only[yW6 (e b rfl)]
 |gref esz b k off len gen=>unfold zXg;simp only[yWo (e b rfl)]
 |_=>rfl
theorem wXf{ty:Ty}{h h2:Heap}{t:TypeId}{x:CV}{lo hi mx:Option CV}(e:∀b,plcC x=some b→h2[b]? =h[b]?):
  zXq ty h2 t x lo hi mx=zXq ty h t x lo hi mx:=by
 cases x with
 | ptr b off=>
  unfold zXq;cases ty t with
  |none=>rfl
  |some i=>
   simp only;cases i.desc<;>(try rfl)
   simp only[e b rfl]
 | sref esz b off len cap ex=>
  unfold zXq;cases ty t with
  |none=>rfl
  |some i=>
   simp only;cases i.desc<;>(try rfl)
   simp only[yW6 (e b rfl)]
 | gref esz b k off len gen=>
  unfold zXq;cases ty t with
  |none=>rfl
  |some i=>
   simp only;cases i.desc<;>(try rfl)
   simp only[yWo (e b rfl)]
 | rop v=>
  unfold zXq;cases ty t with
  |none=>rfl
  |some i=>
   simp only;cases i.desc<;>(try rfl)
   cases v<;>rfl
 | _=>
  unfold zXq;cases ty t with
  |none=>rfl
  |some i=>
   simp only;cases i.desc<;>rfl
theorem xQr{ty:Ty}{h h2:zQa}{touched:List Nat}{ρ:Operand→VV}{ρc:Operand→CV}(hρ:∀x,ρc x=(ρ x).cv){o:Op}(hs:wW2 h.length touched ρ o=true)(st:zQe touched h h2)(n:Nat):
  opQ ty (hc h2) n ρc o=opQ ty (hc h) n ρc o:=by
 have key:∀x,xQs h.length touched (ρ x)=true→∀b,plcC (ρc x)=some b→(hc h2)[b]?=(hc h)[b]?:=by
  intro x hx b hb;rw[hρ]at hb;unfold xQs at hx;split at hx<;>(try (simp at hx;done))
  ·rename_i b' off' hv
   rw[hv]at hb;simp only[VV.cv,plcC,Qa]at hb;subst hb;simp only[Qc,decide_eq_true_eq,J3,Km,decide_eq_false_iff_not]at hx;rw[zQ6,zQ6,st.2 b' hx.1 hx.2]
  ·rename_i b' i1' o1' hv
   rw[hv]at hb;simp only[VV.cv,plcC,Qa]at hb;subst hb;simp only[Qc,decide_eq_true_eq,J3,Km,decide_eq_false_iff_not]at hx;rw[zQ6,zQ6,st.2 b' hx.1 hx.2]
  ·rename_i b' i1' o1' o2' hv
   rw[hv]at hb;simp only[VV.cv,plcC,Qa]at hb;subst hb;simp only[Qc,decide_eq_true_eq,J3,Km,decide_eq_false_iff_not]at hx;rw[zQ6,zQ6,st.2 b' hx.1 hx.2]
  ·rename_i b' c' d' i' o' hv
   rw[hv]at hb;simp only[VV.cv,plcC,Qa]at hb;subst hb;simp only[Qc,decide_eq_true_eq,J3,Km,decide_eq_false_iff_not]at hx;rw[zQ6,zQ6,st.2 b' hx.1 hx.2]
  ·rename_i u hv
   rw[hv]at hb;simp[VV.cv,plcC]at hb
 have keyA:∀x,xKn h.length touched (ρ x)=true→∀b,plcC (ρc x)=some b→(hc h2)[b]?=(hc h)[b]?:=by
  intro x hx b hb;rw[hρ]at hb;unfold xKn at hx;split at hx<;>(try (simp at hx;done))
  ·rename_i b' off' hv
   simp only[Qc,decide_eq_true_eq,J3,Km,decide_eq_false_iff_not]at hx;rw[hv]at hb;simp only[VV.cv,plcC,Qa]at hb;subst hb;rw[zQ6,zQ6,st.2 b' hx.1 hx.2]
  ·rename_i b' off' len' cap' ex' c' hv
   simp only[Qc,decide_eq_true_eq,J3,Km,decide_eq_false_iff_not]at hx;rw[hv]at hb;simp only[VV.cv,plcC,Qa]at hb;subst hb;rw[zQ6,zQ6,st.2 b' hx.1 hx.2]
  ·rename_i b' c' d' hv
   simp only[Qc,decide_eq_true_eq,J3,Km,decide_eq_false_iff_not]at hx;rw[hv]at hb;have hbb:b'=b:=by
    cases d'<;>simp[VV.cv,valC,mixC,plcC]at hb;exact hb
   subst hbb;rw[zQ6,zQ6,st.2 b' hx.1 hx.2]
  ·rename_i hv
   rw[hv]at hb;simp[VV.cv,plcC]at hb
  ·rename_i hv
   rw[hv]at hb;simp[VV.cv,plcC]at hb
  ·rename_i hv
   rw[hv]at hb;simp[VV.cv,plcC]at hb
 have lenS:∀(t:TypeId) (x:Operand),(ρ x=.nsl∨∃c ds tok full,ρ x=.sl c ds tok full)→lenC ty (hc h2) t (ρc x)=lenC ty (hc h) t (ρc x):=by
  intro t x hx;rw[hρ];unfold lenC;cases ty t with
  |none=>rfl
  |some i=>
   rcases hx with hx|⟨c,ds,tok,full,hx⟩<;>rw[hx]<;>simp only[VV.cv]<;>cases i.desc<;>rfl
 cases o<;>simp only[wW2]at hs<;>(try (cases hs;done))<;>(try rfl)
 case load t a=>simp only[opQ];rw[wYg (key _ hs)]
 case nilCheck x=>simp only[opQ];rw[xXv (key _ hs)]
 case fieldAddr t x f=>simp only[opQ];rw[xWx (key _ hs)]
 case indexAddr t x i=>simp only[opQ];rw[xWs (keyA _ hs)]
 case slice t x lo hi mx=>simp only[opQ];rw[wXf (keyA _ hs)]
 case call cl=>
  unfold vQo at hs;split at hs<;>(try (cases hs;done))
  rename_i hcal;split at hs<;>(try (cases hs;done))
  rename_i x hargs;have hx:ρ x=.nsl∨∃c ds tok full,ρ x=.sl c ds tok full:=by
   split at hs<;>(try (cases hs;done))
   ·rename_i hv;exact .inl hv
   ·rename_i hv;exact .inr ⟨_,_,_,_,hv⟩
  simp only[opQ,yXk,hcal,hargs];cases cl.argTypes.toList with
  |nil=>rfl
  |cons t l=>
   cases l with
   |nil=>simp only[lenS t x hx]
   |cons _ _=>rfl
 case binOp op t x y p=>
  unfold vQp at hs;split at hs
  ·rename_i k n hx
   split at hs<;>(try (cases hs;done))
   rename_i k' n' hy;simp only[opQ,hρ,hx,hy,VV.cv];rfl
  ·rename_i s hx
   split at hs<;>(try (cases hs;done))
   rename_i s' hy;simp only[opQ,hρ,hx,hy,VV.cv];rfl
  ·cases hs
theorem vWq(ok:vc.Ok P c)(nl:Nat):(xY6 nl vc).Ok P c:=by
 unfold xY6;split
 ·exact{ok with opf:=fun f o h=>by simp at h,rpf:=fun f o h=>by simp at h}
 ·exact ok
def KEnd{β:Type}(ops:Array Oper)(draw:Bool)(t:List VV)(K:List VV→zQa→List Nat→Option β)(KP:KVal β)(r:β)(out:Out)(t':List VV)(h':zQa)(m':List Nat):Prop:=
 (out=.normal∧K t' h' m'=some r)∨∃v:VV,out=.panic v.cv∧t'=zZ2 (zW5 ops) t∧draw=false∧KP v h' m'=some r
theorem wYd{ops:Array Oper}{i:Nat}{o:Oper}{d:Nat}(ho:ops[i]?=some o)(hd:o.dst=some d):d∈zW5 ops:=by
 simp only[zW5,J0];refine⟨o, ?_,by simp[hd]⟩
 rw[Array.mem_toList_iff];exact Array.mem_of_getElem? ho
theorem vJh{ops:Array Oper}{i:Nat}{o:Oper}(ho:ops[i]?=some o)(t:List VV)(v:VV):zZ2 (zW5 ops) (putV t o.dst v)=zZ2 (zW5 ops) t:=by
 cases hd:o.dst with
 |none=>rfl
 | some d=>
  have hm:=wYd ho hd;apply Jy;intro k;by_cases hk:k∈zW5 ops
  ·by_cases hl:k<t.length
   ·have h1:k<(zZ2 (zW5 ops) (t.set d v)).length:=by rw[zJ0];simpa using hl
    have h2:k<(zZ2 (zW5 ops) t).length:=by rw[zJ0];exact hl
    have e1:=xWm _ _ hk (Qm h1);have e2:=xWm _ _ hk (Qm h2);show(zZ2 (zW5 ops) (t.set d v))[k]?=_;rw[Qm h1,Qm h2,e1,e2]
   ·rw[J2 (by rw[zJ0,wKo];omega),J2 (by rw[zJ0];omega)]
  ·rw[zKt _ _ hk,zKt _ _ hk]
   exact Qd fun e=>hk (by rw[←e];exact hm)
theorem KEnd.put{ops:Array Oper}{draw:Bool}{i:Nat}{o:Oper}{t:List VV}{v:VV}{K:List VV→zQa→List Nat→Option β}{KP:KVal β}{out:Out}{t':List VV}{h':zQa}{m':List Nat}(ho:ops[i]?=some o)(k:KEnd ops draw (putV t o.dst v) K KP r out t' h' m'):KEnd ops draw t K KP r out t' h' m':=by
 rcases k with k|⟨u,h1,h2,h3⟩
 ·exact .inl k
 ·exact .inr ⟨u,h1,by rw[h2,vJh ho],h3⟩
theorem vXd:∀(l:List Nat) (t:List VV),CWs (t.map VV.cv) ((zZ2 l t).map VV.cv):=by
 intro l t;refine⟨by simp[zJ0],fun i c c' hc hc'=>?_⟩
 by_cases hi:i∈l
 ·simp only[Qt,J8]at hc'
  obtain⟨v,hv,rfl⟩:=hc';rw[xWm _ _ hi hv];exact fun _ _ _ u _=>.junk u
 ·rw[Qt,zKt _ _ hi,←Qt,hc]at hc'
  simp at hc';subst hc';exact CW.refl _
theorem zXb.weakP{rd:Option Nat}{ops:Array Oper}{l:List Nat}{T T1 T2:List CV}{H H':Heap}{v:CV}(hw:CWs T1 T2)(hx:zXb P c rd ops l T H (.panic v) T1 H'):zXb P c rd ops l T H (.panic v) T2 H':=by
 intro N φ St w a ro R hg hr ht;refine zYm (fun e a w p=>?_) _ _ _ (hx N φ St w a ro R hg hr ht)
 obtain⟨φ1,St1,l1,ms,hm,hout⟩:=p;cases e<;>simp only[yZf]at hout;exact⟨φ1,St1,l1,ms,hm,hout.1,hw.vrl hout.2.1,hout.2.2⟩
open Classical in
noncomputable def yKt(g:Who)(args:List CV)(H:Heap)(v:CV)(H':Heap):Who→List CV→Heap→Ans:=
 fun f a h=>if f=g∧a=args∧h=H then some (.panic v,[],H')else none
theorem wXs{f:FuncId}{args:List CV}{H H':Heap}{v:CV}(hF:zQo P c (.fn f) args H (.panic v) [] H'):yWh P c (yKt (.fn f) args H v H'):=by
 intro g a h out vs h' he;unfold yKt at he;split at he<;>simp at he;rename_i hc;obtain⟨rfl,rfl,rfl⟩:=hc;obtain⟨rfl,rfl,rfl⟩:=he;exact⟨.inl hF,by simp⟩
theorem xK5(g:Who)(args:List CV)(H:Heap)(v:CV)(H':Heap):yKt g args H v H' g args H=some (.panic v,[],H'):=by simp[yKt]
theorem wZ3(ok:vc.Ok P c)(hcall:yXo P c call)(nl:Nat)(ops:Array Oper)(draw:Bool)(rd:Option Nat):∀(KP:KVal β) (l:List (Nat×List Nat)) (t:List VV) (h:zQa) (m:List Nat) (K:List VV→zQa→List Nat→Option β),yQs vc call nl ops draw KP l t h m K=some r→
  ∃out t' h' m',KEnd ops draw t K KP r out t' h' m'∧(draw=false→zXb P c rd ops (l.map (·.1)) (t.map VV.cv) (hc h) out (t'.map VV.cv) (hc h'))∧
   (draw=true→Ahead P c (yJt nl) ops l (t.map VV.cv) (hc h) out (t'.map VV.cv) (hc h'))∧Tr (zW5 ops) t h m t' h' m':=by
 intro KP l;induction l with
 |nil=>intro t h m K he;exact⟨.normal,t,h,m, .inl ⟨rfl,he⟩,fun _=>zXb.nil,fun _=>.nil _ _,Tr.refl _ _ _ _⟩
 | cons p l ih=>
  obtain⟨i,rs⟩:=p;intro t h m K he;simp only[yQs]at he;split at he
  ·rename_i ho
   split at he<;>(try (simp at he;done))
   rename_i hd;obtain⟨out,t',h',m',k1,k2,k3,k4⟩:=ih _ _ _ _ he;exact⟨out,t',h',m',k1,fun hf=>zXb.none ho (k2 hf),fun ht=>absurd ht hd,k4⟩
  ·rename_i o ho
   obtain⟨b,h1,hw⟩:=wJt he;cases b with
   |false=>
    simp only at h1;obtain⟨out,t',h',m',k1,k2,k3,k4⟩:=ih _ _ _ _ h1;rw[zZu]at k2 k3;exact⟨out,t',h',m',k1.put ho,fun hf=>zXb.skip ho hw (k2 hf),fun ht=>.skip ho hw (k3 ht),(yWe ho t .undef (zQe.refl _ _) (fun _ h=>h)).trans k4 (fun _ h=>h) (fun _ h=>h)⟩
   | true =>
    simp only at h1;have hquiet:(opVQ vc.ty h (evV vc.glob t) o.op fun v new=>yQs vc call nl ops draw KP l (putV t o.dst v) (yZp h new) m K)=some r→
      ∃out t' h' m',KEnd ops draw t K KP r out t' h' m'∧(draw=false→zXb P c rd ops (((i,rs)::l).map (·.1)) (t.map VV.cv) (hc h) out (t'.map VV.cv) (hc h'))∧
       (draw=true→Ahead P c (yJt nl) ops ((i,rs)::l) (t.map VV.cv) (hc h) out (t'.map VV.cv) (hc h'))∧Tr (zW5 ops) t h m t' h' m':=fun h1=>by
     obtain⟨v,new,g1,g2⟩:=wXq (zZh ok t) h1;obtain⟨out,t',h',m',k1,k2,k3,k4⟩:=ih _ _ _ _ g1;rw[zZu]at k2 k3;rw[ok.ty]at g2;have hh:hc (yZp h new)=hc h++(new.map VObj.ho).toList:=by
      cases new with
      |none=>simp[yZp]
      |some b=>simp[hc,yZp]
     rw[hh]at k2 k3;refine⟨out,t',h',m',k1.put ho,fun hf=>zXb.quiet ok.base ho hw g2 (k2 hf),fun ht=>.quiet ho hw g2 (k3 ht),(yWe ho t v (m:=m) (m':=m) ?_ (fun _ h=>h)).trans k4 (fun _ h=>h) (fun _ h=>h)⟩
     cases new with
     |none=>exact zQe.refl _ _
     |some b=>exact(zQe.refl _ _).push _
    split at h1
    ·split at h1<;>(try (simp at h1;done))
     rename_i hdr;split at h1
     ·obtain⟨v,h2,n,len,cap,esz,g1,gv,g2,g4,b,g5⟩:=vJa (zZh ok t) h1
      obtain⟨out,t',h',m',k1,k2,k3,k4⟩:=ih _ _ _ _ g1;rw[zZu,g4,gv]at k2;rw[ok.ty,gv]at g2;rw[←zW8 h]at g2 k2;refine⟨out,t',h',m',k1.put ho,fun hf=>wKx ok.base ho hw g2 (k2 hf),fun ht=>absurd ht hdr,(yWe ho t v (m:=m) (m':=m) ?_ (fun _ h=>h)).trans k4 (fun _ h=>h) (fun _ h=>h)⟩
      rw[g5];exact(zQe.refl _ _).push _
     ·obtain⟨v,h2,e2,n,len,cap,esz,g1,gv,g2,g4,b,g5⟩:=vK9 (zZh ok t) h1
      obtain⟨out,t',h',m',k1,k2,k3,k4⟩:=ih _ _ _ _ g1;rw[zZu,g4,gv]at k2;rw[ok.ty,gv]at g2;refine⟨out,t',h',m',k1.put ho,fun hf=>vWu (e:=e2) (wKx ok.base ho hw g2 (k2 hf)),fun ht=>absurd ht hdr,(yWe ho t v (m:=m) (m':=m) ?_ (fun _ h=>h)).trans k4 (fun _ h=>h) (fun _ h=>h)⟩
      rw[g5];exact(zQe.refl _ _).push _
     obtain⟨v,h2,cs,cs',g1,g2,g3,g4,b,g5⟩:=vK8 (zZh ok t) h1;obtain⟨v2,h3,m3,g6,g7,g8,g9⟩:=wXw g1;obtain⟨out,t',h',m',k1,k2,k3,k4⟩:=ih _ _ _ _ g6;rw[zZu]at k2
     rw[ok.ty]at g2;have k2':=fun hf=>wXn (T:=t.map VV.cv) (by rw[Qh];exact g7) (k2 hf)
     rw[g4]at k2';refine⟨out,t',h',m',k1.put ho,fun hf=>zXb.vYm ok.base ho hw g2 g3 (k2' hf),fun ht=>absurd ht hdr,(yWe ho t v2 (m:=m) (m':=m3) (zQe.trans (m:=m) ?_ g8 g9) g9).trans k4 (fun _ h=>h) (fun _ h=>h)⟩
     rw[g5];exact(zQe.refl _ _).push _
    ·split at h1
     ·exact hquiet h1
     ·obtain⟨v,new,g1,g2⟩:=wXq (zZh ok t) h1
      obtain⟨v2,h3,m3,g6,g7,g8,g9⟩:=wXw g1;obtain⟨out,t',h',m',k1,k2,k3,k4⟩:=ih _ _ _ _ g6;rw[zZu]at k2;rw[ok.ty]at g2;have hh:hc (yZp h new)=hc h++(new.map VObj.ho).toList:=by
       cases new with
       |none=>simp[yZp]
       |some b=>simp[hc,yZp]
      have k2':=wXn (T:=t.map VV.cv) (by rw[Qh];exact g7) (k2 rfl)
      rw[hh]at k2';refine⟨out,t',h',m',k1.put ho,fun hf=>zXb.quiet ok.base ho hw g2 k2',fun ht=>by simp at ht,(yWe ho t v2 (m:=m) (m':=m3) (zQe.trans (m:=m) ?_ g8 g9) g9).trans k4 (fun _ h=>h) (fun _ h=>h)⟩
      cases new with
      |none=>exact zQe.refl _ _
      |some b=>exact(zQe.refl _ _).push _
    ·split at h1
     ·exact hquiet h1
     ·split at h1
      ·obtain⟨v,h2,cs,cs',g1,g2,g3,g4,b,g5⟩:=wWh (zZh ok t) h1
       obtain⟨v2,g6,g7⟩:=uW8 g1;obtain⟨out,t',h',m',k1,k2,k3,k4⟩:=ih _ _ _ _ g6;rw[zZu,zJz,g4]at k2;rw[g4]at g7;rw[ok.ty]at g2;refine⟨out,t',h',m',k1.put ho,fun hf=>uWm ok.base ho hw g2 g3 g7 (k2 rfl),fun ht=>by simp at ht,(yWe ho t v2 (m:=m) (m':=v.blk++m) ?_ (fun x hx=>Q7 _ hx)).trans k4 (fun _ h=>h) (fun _ h=>h)⟩
       rw[g5];exact(((zQe.refl (v.blk++m) h).push [b]).trans ((zZg v.blk (h++[b])).mono fun x hx=>Qv _ hx) (fun _ h=>h))
      obtain⟨v,h2,cs,cs',g1,g2,g3,g4,b,g5⟩:=wWh (zZh ok t) h1;obtain⟨out,t',h',m',k1,k2,k3,k4⟩:=ih _ _ _ _ g1;rw[zZu,g4]at k2;rw[ok.ty]at g2;refine⟨out,t',h',m',k1.put ho,fun hf=>zXb.vYm ok.base ho hw g2 g3 (k2 rfl),fun ht=>by simp at ht,(yWe ho t v (m:=m) (m':=m) ?_ (fun _ h=>h)).trans k4 (fun _ h=>h) (fun _ h=>h)⟩
      rw[g5];exact(zQe.refl _ _).push _
    ·split at h1<;>(try (simp at h1;done))
     rename_i hk hdr;have hl:zKp o.op=true∨∀lit ρ H,opL c.ty lit H ρ o.op=none:=by
      generalize o.op=oo at hk;cases oo with
      |store=>exact .inl rfl
      |mapUpdate=>exact .inl rfl
      | call cl=>
       cases hcl:zKp (.call cl)with
       |true=>exact .inl rfl
       | false=>
        right;intro lit ρ H;cases hh:opL c.ty lit H ρ (.call cl)with
        |none=>rfl
        |some z=>
         simp only[opL]at hh;split at hh<;>(try (simp at hh;done))
         ·rename_i hb _ _;simp[zKp,hb]at hcl
         ·rename_i hb _ _;simp[zKp,hb]at hcl
         ·rename_i hb _ _;simp[zKp,hb]at hcl
      |_=>exact .inr fun _ _ _=>rfl
     split at h1
     ·obtain⟨v,h2,g1,g2,g3,g4⟩:=wXr (zZh ok t) h1
      obtain⟨out,t',h',m',k1,k2,k3,k4⟩:=ih _ _ _ _ g1;rw[zZu]at k2 k3;rw[ok.ty]at g2 g3;have hs:zXt c (yJt nl) (fun _ _ _=>none) (hc h) (ev c.glob (t.map VV.cv)) o.op=some (.loud v.cv (hc h2)):=by
       unfold zXt;rw[g2];simp only[g3]
      replace hl:zKp o.op=true:=hl.elim id fun hn=>by rw[hn]at g3;simp at g3
      refine⟨out,t',h',m',k1.put ho,fun hf=>by simp at hf,fun ht=>?_,(yWe ho t (fgtV true nl v) (g4.mono (fun x hx=>Qv _ hx)) (fun x hx=>Q7 _ hx)).trans k4 (fun _ h=>h) (fun _ h=>h)⟩
      refine .loud ho hw (yZ1 P c) hs hl (.inl fun j hj o' ho' _=>.inr fun n=>?_) (k3 rfl)
      cases hfs:farsV ops (evV vc.glob t) o.op rs with
      |true=>
       have hf:=Qq.1 hfs j hj;rw[ho']at hf;exact vJu (uXe (zZh ok t) hf) hs n
      | false=>
       have hst:xKm ops (evV vc.glob t) h.length (zJq h (evV vc.glob t) o.op) rs=true:=by
        rw[hfs]at hdr;simpa using hdr
       have hf:=Qq.1 hst j hj;rw[ho']at hf;exact xQr (zZh ok t) hf g4 n
     ·obtain⟨v,h2,g1,g2,g3,g4⟩:=wXr (zZh ok t) h1
      obtain⟨v2,h3,m3,g6,g7,g8,g9⟩:=wXw g1;obtain⟨out,t',h',m',k1,k2,k3,k4⟩:=ih _ _ _ _ g6;rw[zZu]at k2;rw[ok.ty]at g2 g3;have hs:zXt c (yJt nl) (fun _ _ _=>none) (hc h) (ev c.glob (t.map VV.cv)) o.op=some (.loud v.cv (hc h2)):=by
       unfold zXt;rw[g2];simp only[g3]
      replace hl:zKp o.op=true:=hl.elim id fun hn=>by rw[hn]at g3;simp at g3
      refine⟨out,t',h',m',k1.put ho,fun hf=>zXb.loud ok.base (yZ1 P c) ho hw hs (vK2 (fgt_cw false nl v) (wXn (by rw[Qh];exact g7) (k2 rfl))),fun ht=>by simp at ht,(yWe ho t v2 ((g4.mono (fun x hx=>Qv _ hx)).trans g8 g9) (fun x hx=>g9 _ (Q7 _ hx))).trans k4 (fun _ h=>h) (fun _ h=>h)⟩
    ·rename_i fo hk
     split at h1<;>(try (simp at h1;done))
     rename_i cl hop;split at h1<;>(try (simp at h1;done))
     ·rename_i g first captured hg
      have hcal:cl.callee=.value fo:=by
       rw[hop]at hk;simp only[wQj]at hk;split at hk<;>simp at hk;subst hk;assumption
      have hcd:zZj (ev c.glob (t.map VV.cv)) o.op=some (.who (.fn g) ((first++cl.args.toList.map (evV vc.glob t)++captured).map VV.cv)):=by
       simp only[zZj,hop,hcal,zZh ok,hg,VV.cv,VV.zQx,Qw,J5];congr 6
       funext x;exact zZh ok t x
      rcases vJ4 (vWq ok nl) hcall h1 with⟨v,h2,m2,g1,g2,g3,g4,g5⟩|⟨v,h2,m2,g1,g2,g3,g4⟩
      rotate_left
      ·split at g1<;>(try (simp at g1;done))
       have hs:zXt c (yJt nl) (yKt (.fn g) ((first++cl.args.toList.map (evV vc.glob t)++captured).map VV.cv) (hc h) v.cv (hc h2)) (hc h) (ev c.glob (t.map VV.cv)) o.op=some (.panic v.cv (hc h2)):=by
        unfold zXt;have q1:opQ c.ty (hc h) (hc h).length (ev c.glob (t.map VV.cv)) o.op=none:=by rw[hop];simp[opQ,yXk,hcal,rdC]
        have q2:opL c.ty (yJt nl) (hc h) (ev c.glob (t.map VV.cv)) o.op=none:=by rw[hop];simp[opL,hcal]
        rw[q1];simp only[q2,hcd,xK5]
       exact⟨.panic v.cv,zZ2 (zW5 ops) t,h2,m2++m, .inr ⟨v,rfl,rfl,rfl,g1⟩,fun _=>zXb.weakP (vXd _ _) (zXb.panic (wXs g2) ho hw hs),fun h=>by simp at h,
        ⟨zJ0 _ _,fun i hi=>zKt _ _ hi,g3.mono fun x hx=>Qv _ hx,fun x hx=>Q7 _ hx⟩⟩
      split at g1<;>(try (simp at g1;done))
      rename_i hdr;obtain⟨out,t',h',m',k1,k2,k3,k4⟩:=ih _ _ _ _ g1;rw[zZu]at k2 k3;have hs:zXt c (yJt nl) (yZu (.fn g) ((first++cl.args.toList.map (evV vc.glob t)++captured).map VV.cv) (hc h) v.cv (hc h2)) (hc h) (ev c.glob (t.map VV.cv)) o.op=some (.loud v.cv (hc h2)):=by
       unfold zXt;have q1:opQ c.ty (hc h) (hc h).length (ev c.glob (t.map VV.cv)) o.op=none:=by rw[hop];simp[opQ,yXk,hcal,rdC]
       have q2:opL c.ty (yJt nl) (hc h) (ev c.glob (t.map VV.cv)) o.op=none:=by rw[hop];simp[opL,hcal]
       rw[q1];simp only[q2,hcd,yYi]
      have hl:zKp o.op=true:=by rw[hop];simp[zKp,hcal]
      refine⟨out,t',h',m',k1.put ho,fun hf=>zXb.loud ok.base (yZt g2 (by simp)) ho hw hs (k2 hf),fun ht=>?_,(yWe ho t v (g3.mono (fun x hx=>Qv _ hx)) (fun x hx=>Q7 _ hx)).trans k4 (fun _ h=>h) (fun _ h=>h)⟩
      subst ht;refine .loud ho hw (yZt g2 (by simp)) hs hl ?_ (k3 rfl)
      by_cases hrs:rs=[]
      ·subst hrs;exact .inl (xXl.of rfl)
      ·cases hk:zYs (xY6 nl vc) g (first++cl.args.toList.map (evV vc.glob t)++captured)with
       |true=>right;rw[g5 hk]
       | false=>
        have hst:xKm ops (evV vc.glob t) h.length m2 rs=true:=by
         have hne:rs.isEmpty=false:=by cases rs with
          |nil=>exact absurd rfl hrs
          |cons _ _=>rfl
         rw[hk,hne]at hdr;simpa using hdr
        refine .inl fun j hj o' ho' _=>.inr fun n=>?_
        have hf:=Qq.1 hst j hj;rw[ho']at hf;exact xQr (zZh ok t) hf g3 n
     ·rename_i g hg
      split at h1<;>(try (simp at h1;done))
      rename_i hdr;obtain⟨v,h2,m2,g1,g2,g3,g4,g5⟩:=(hcall _ _ _ _ _ _ _ h1).resolve_right (by rintro⟨_,_,_,h,_⟩;simp at h)
      obtain⟨out,t',h',m',k1,k2,k3,k4⟩:=ih _ _ _ _ g1;rw[zZu]at k2 k3;have hcal:cl.callee=.value fo:=by
       rw[hop]at hk;simp only[wQj]at hk;split at hk<;>simp at hk;subst hk;assumption
      have hcd:zZj (ev c.glob (t.map VV.cv)) o.op=some (.who (.yl g) ((cl.args.toList.map (evV vc.glob t)).map VV.cv)):=by
       simp only[zZj,hop,hcal,zZh ok,hg,VV.cv,J5];congr 4
       funext x;exact zZh ok t x
      have hs:zXt c (yJt nl) (yZu (.yl g) ((cl.args.toList.map (evV vc.glob t)).map VV.cv) (hc h) v.cv (hc h2)) (hc h) (ev c.glob (t.map VV.cv)) o.op=some (.loud v.cv (hc h2)):=by
       unfold zXt;have q1:opQ c.ty (hc h) (hc h).length (ev c.glob (t.map VV.cv)) o.op=none:=by rw[hop];simp[opQ,yXk,hcal,rdC]
       have q2:opL c.ty (yJt nl) (hc h) (ev c.glob (t.map VV.cv)) o.op=none:=by rw[hop];simp[opL,hcal]
       rw[q1];simp only[q2,hcd,yYi]
      have hl:zKp o.op=true:=by rw[hop];simp[zKp,hcal]
      refine⟨out,t',h',m',k1.put ho,fun hf=>zXb.loud ok.base (xZl g2 g5) ho hw hs (k2 hf),fun ht=>?_,(yWe ho t v g3 g4).trans k4 (fun _ h=>h) (fun _ h=>h)⟩
      subst ht;refine .loud ho hw (xZl g2 g5) hs hl ?_ (k3 rfl);have hrs:rs=[]:=by simpa using hdr
      subst hrs;exact .inl (xXl.of rfl)
    ·split at h1<;>(try (simp at h1;done))
     rename_i x hk hdr;split at h1<;>(try (simp at h1;done))
     rename_i u v hx;have hop:o.op=.panic x:=by
      generalize o.op=oo at hk;cases oo<;>simp[wQj]at hk
      case panic y=>subst hk;rfl
      all_goals (repeat' split at hk)<;>simp at hk
     have hs:zXt c (yJt nl) (fun _ _ _=>none) (hc h) (ev c.glob (t.map VV.cv)) o.op=some (.panic (VV.ifc u v).cv (hc h)):=by
      rw[hop];have e:=zZh ok t x;rw[hx]at e;simp only[zXt,opQ,opL,zZj,e,VV.cv]
     exact⟨.panic (VV.ifc u v).cv,zZ2 (zW5 ops) t,h,m, .inr ⟨.ifc u v,rfl,rfl,rfl,h1⟩,fun _=>zXb.weakP (vXd _ _) (zXb.panic (yZ1 P c) ho hw hs),fun h=>by simp at h,
      ⟨zJ0 _ _,fun i hi=>zKt _ _ hi,zQe.refl _ _,fun _ h=>h⟩⟩
theorem vJb {Q : Prop} {x : X} {rd : Option Nat} {sp:LSpec}{id:Nat}{writes:List Nat}{body:List VV→zQa→KOut β→Option β}
    (ih:∀(t:List VV) (h:zQa) (K:KOut β) (r:β),body t h K=some r→∃o t' h' m',K o t' h' m'=some r∧(Q→zQm P c rd x (t.map VV.cv) (hc h) o (t'.map VV.cv) (hc h'))∧Tr writes t h [] t' h' m')
    {t1:List VV} {h1:zQa} {m:List Nat} {K:KOut β} {r:β} (he:uWv sp id writes body t1 h1 m K=some r):
    ∃o t' h' m',K o t' h' m'=some r∧(Q→zQj P c rd x (t1.map VV.cv) (hc h1) o (t'.map VV.cv) (hc h'))∧Tr writes t1 h1 m t' h' m':=by
  unfold uWv at he;split at he<;>(try (simp at he;done))
  rename_i d0 hd0;obtain⟨he1,hcw,hhc⟩:=wX4 hd0 he rfl (fun _ _=>rfl) (Qe _) (fun _ _ _=>rfl)
  split at he1<;>(try (simp at he1;done))
  rename_i hchk;simp only[Qc,Qq,List.contains_iff_mem]at hchk;obtain⟨hw1,hw2⟩:=hchk;have hloop:∀(n:Nat) (d:Items sp.items),wQw (fun d k=>body (sp.head t1 h1 d).1 (sp.head t1 h1 d).2 fun o t' h' m'=>match o with
            | .normal=>frzL sp.frz t' h' m' fun h' m'=>if(m'.all fun b=>decide (h1.length≤b)||sp.blks.contains b)=true then
                (match Items.get sp.items t' h' with
                |some d'=>yWl sp.tails (sp.pre t1 h1 d').1 (sp.pre t1 h1 d').2 h' (if(VV.inBs h1.length (sp.head t1 h1 d').1&&(sp.head t1 h1 d').2.all (VObj.inB h1.length))=true then k d' else Z.zZ7 (id*8+5) t' h' m')
                |none=>Z.zZ7 (id*8+3) t' h' m')
              else Z.zZ7 (id*8+4) t' h' m'
            |o=>K o t' h' (m'++sp.blks++m)) n d=some r→
      ∃ o t' h' m',K o t' h' (m'++sp.blks++m)=some r∧(Q→zQj P c rd x ((sp.head t1 h1 d).1.map VV.cv) (hc (sp.head t1 h1 d).2) o (t'.map VV.cv) (hc h'))∧
        t'.length=t1.length∧(∀i,i∉writes→t'[i]?=t1[i]?)∧h1.length≤h'.length∧∀x,x<h1.length→x∉m'→x∉sp.blks→h'[x]?=h1[x]?:=by
    intro n;induction n with
    |zero=>intro d hl;simp[wQw]at hl
    | succ n ihn=>
      intro d hl;simp only[wQw]at hl;obtain⟨o,t2,h2,m2,k1,k2,k3⟩:=ih _ _ _ _ hl;have hlen:=xJv (s:=sp) (t1:=t1) (h1:=h1) d;have hsl:∀i,i∉writes→t2[i]?=t1[i]?:=fun i hi=>by
        rw[k3.slots i hi];exact wQ5 d fun hx=>hi (hw2 i hx)
      have hbl:∀x,x<h1.length→x∉m2→x∉sp.blks→h2[x]?=h1[x]?:=fun x hx hn hb=>by
        rw[k3.stays.2 x (by rw[hlen.2];exact hx) hn]
        exact wJe d hb
      have hlen2:h1.length≤h2.length:=by have:=k3.stays.1;rw[hlen.2]at this;exact this
      by_cases ho:o=.normal
      · subst ho
        simp only at k1;obtain⟨h4,m4,k1,f1,f2,f3⟩:=wX9 (P:=P) (c:=c) (rd:=rd) (x:=x) (.inl rfl) sp.frz k1;replace k2:Q→zQm P c rd x _ _ .normal (t2.map VV.cv) (hc h4):=fun hq=>f1 _ _ (k2 hq)
        replace hbl:∀x,x<h1.length→x∉m4→x∉sp.blks→h4[x]?=h1[x]?:=fun x hx hn hb=>by
          rw[f2.2 x (by omega) hn];exact hbl x hx (fun hm=>hn (f3 x hm)) hb
        replace hlen2:h1.length≤h4.length:=Kf hlen2 f2.1;split at k1<;>(try (simp at k1;done))
        rename_i hm2;simp only[Qq,Kp,decide_eq_true_eq,List.contains_iff_mem]at hm2;split at k1<;>(try (simp at k1;done))
        rename_i d' hd';obtain⟨k1,hcw2,hhc2⟩:=wX4 hd' k1 (k3.len.trans hlen.1) (fun i hi=>hsl i fun hx=>hi (hw1 i hx)) hlen2
          (fun x hx hb => hbl x hx (fun hm => by rcases hm2 x hm with h|h;·omega
                                                 ·exact hb h) hb)
        split at k1<;>(try (simp at k1;done))
        rename_i hin;simp only[Qc,Qq]at hin;obtain⟨o3,t3,h3,m3,g1,g2,g3⟩:=ihn d' k1;refine⟨o3,t3,h3,m3,g1,fun hq=>?_,g3⟩
        have hlH:(hc (sp.head t1 h1 d).2).length=h1.length:=by rw[zW8,hlen.2]
        have hcut:=zQm.cut (k2 hq) (T'':=(sp.head t1 h1 d').1.map VV.cv) ?_ hcw2 (by rw[hlH];exact xJ8 _ _ hin.1)
        · rw[hlH,←hhc2]at hcut
          exact zQj.more hcut (g2 hq)
        · intro x ob hx hob
          rw[hlH]at hx⊢;have e:(hc (sp.head t1 h1 d').2)[x]?=some ob:=by rw[hhc2,Ko,Qf hx];exact hob
          rw[zQ6]at e;cases hv:(sp.head t1 h1 d').2[x]? with
          |none=>rw[hv]at e;simp at e
          | some vo=>
            rw[hv]at e;simp at e;subst e;exact VObj.vYt (hin.2 vo (Ql hv))
      · have k1':K o t2 h2 (m2++sp.blks++m)=some r:=by cases o<;>first|exact absurd rfl ho|exact k1
        exact⟨o,t2,h2,m2,k1',fun hq=>zQj.leave ho (k2 hq),k3.len.trans hlen.1,hsl,hlen2,hbl⟩
  rw[Z.vW8]at he1;obtain⟨o,t2,h2,m2,k1,k2,k3,k4,k5,k6⟩:=hloop _ d0 he1;refine⟨o,t2,h2,_,k1,fun hq=>zQj.weaken (T'':=(sp.head t1 h1 d0).1.map VV.cv) ?_ hcw, ?_⟩
  · have e1:(hc h1).take h1.length=hc h1:=by rw[Q9];rw[zW8];exact Qe _
    have k2:=k2 hq;rw[hhc,e1]at k2;exact k2
  · refine⟨k3,k4,⟨k5,fun x hx hn=> ?_⟩,fun x hx=>by simp[hx]⟩
    simp only[Qy,not_or]at hn;exact k6 x hx hn.1.1 hn.1.2
theorem vJc{Q:Prop}{x:X}{rd:Option Nat}{sp:LSpec}{writes:List Nat}{body:List VV→zQa→KOut β→Option β}
  (ih:∀(t:List VV) (h:zQa) (K:KOut β) (r:β),body t h K=some r→∃o t' h' m',K o t' h' m'=some r∧(Q→zQm P c rd x (t.map VV.cv) (hc h) o (t'.map VV.cv) (hc h'))∧Tr writes t h [] t' h' m')
  {t:List VV} {h:zQa} {m:List Nat} {K:KOut β} {r:β} (he:uWw sp writes body t h m K=some r):
  ∃o t' h' m',K o t' h' m'=some r∧(Q→zQj P c rd x (t.map VV.cv) (hc h) o (t'.map VV.cv) (hc h'))∧Tr writes t h m t' h' m':=by
 unfold uWw at he;split at he<;>(try (simp at he;done))
 rename_i hw3;simp only[Qq,Kp,Qc,decide_eq_true_eq,List.contains_iff_mem]at hw3;obtain⟨t1,h1,m1,k1,k2,k3,k4,k5,k6⟩:=yQv (P:=P) (c:=c) (rd:=rd) (x:=x) _ he;obtain⟨o,t2,h2,m2,g1,g2,g3⟩:=vJb ih k1
 refine⟨o,t2,h2,m2,g1,fun hq=>k2 _ _ _ (g2 hq),⟨g3.len.trans k3,fun i hi=>?_,k4.trans g3.stays g3.sub,fun y hy=>g3.sub y (k5 y hy)⟩⟩
 rw[g3.slots i hi];refine k6 i fun hm=>hi ?_
 obtain⟨p,hp,rfl⟩:=Ji.1 hm;obtain⟨hp1,hp2⟩:=K1.1 hp;simp only[Kp,Qc,decide_eq_true_eq]at hp2;rcases hw3 p hp1 with(h|h)|h
 ·omega
 ·omega
 ·exact h
theorem wZf{l:Nat}{t:List VV}{m:List Nat}{h:zQa}{K:KOut β}(he:xJ1 l t m h K=some r):∃o h',K o t h' m=some r∧yX7 l (t.map VV.cv) (hc h)=some (o,t.map VV.cv,hc h')∧∃ob,h'=h.set l ob:=by
 unfold xJ1 at he;split at he<;>(try (simp at he;done))
 rename_i f ts ps a b st pend hl;split at he<;>(try (simp at he;done))
 rename_i hnb;refine⟨_,_,he, ?_,_,rfl⟩;unfold yX7;have hl':(hc h)[l]?=some (.loop f (ts.map VV.cv) ps a.x b.x st pend):=by rw[zQ6,hl];rfl
 rw[hl',zQy];cases st<;>first|exact absurd rfl hnb|(cases pend<;>rfl)
theorem wYh{rd:Option Nat}{h:zQa}(hi:wX1 rd h=true):inLoop rd (hc h)=true:=by
 unfold wX1 at hi;unfold inLoop;split at hi
 ·rfl
 ·split at hi<;>(try (simp at hi;done))
  rename_i hb;simp only[zQ6,hb];rfl
theorem vJi{Q:Prop}{x:X}{rd:Option Nat}{sp:LSpec}{writes:List Nat}{body:List VV→zQa→KOut β→Option β}
  (ih:∀(t:List VV) (h:zQa) (K:KOut β) (r:β),body t h K=some r→∃o t' h' m',K o t' h' m'=some r∧(Q→zQm P c rd x (t.map VV.cv) (hc h) o (t'.map VV.cv) (hc h'))∧Tr writes t h [] t' h' m')
  {t:List VV} {h:zQa} {m:List Nat} {K:KOut β} {r:β} (he:uWz sp writes body t h m K=some r):
  ∃o t' h' m',K o t' h' m'=some r∧(Q→zQm P c rd x (t.map VV.cv) (hc h) o (t'.map VV.cv) (hc h'))∧Tr writes t h m t' h' m':=by
 unfold uWz at he;split at he<;>(try (simp at he;done))
 rename_i hchk;simp only[Qc,Qq,List.contains_iff_mem,List.isEmpty_iff]at hchk;obtain⟨⟨hw1,hw2⟩,hb0⟩:=hchk;rw[Z.join_eq]at he;obtain⟨o,t2,h2,m2,k1,k2,k3⟩:=ih _ _ _ _ he
 by_cases ho:o=.normal
 ·subst ho
  simp only at k1;split at k1<;>(try (simp at k1;done))
  split at k1<;>(try (simp at k1;done))
  rename_i d hd;have hlen:=xJv (s:=sp) (t1:=t) (h1:=h) d;obtain⟨k1,hcw2,hhc2⟩:=wX4 hd k1 k3.len (fun i hi=>k3.slots i fun hx=>hi (hw1 i hx)) k3.stays.1 (fun x hx hb=>k3.stays.2 x hx (by simp))
  split at k1<;>(try (simp at k1;done))
  rename_i hin;simp only[Qc,Qq]at hin;refine⟨.normal,_,_,m,k1,fun hq=>?_,⟨hlen.1,fun i hi=>wQ5 d fun hx=>hi (hw2 i hx),⟨by rw[hlen.2];exact Qe _,fun b hb hm=>wJe d (by rw[hb0];simp)⟩,fun _ h=>h⟩⟩
  have hlH:(hc h).length=h.length:=by rw[zW8]
  have hcut:=zQm.cut (k2 hq) (T'':=(sp.head t h d).1.map VV.cv) ?_ hcw2 (by rw[hlH];exact xJ8 _ _ hin.1)
  ·rw[hlH,←hhc2]at hcut
   exact hcut
  ·intro x ob hx hob
   rw[hlH]at hx⊢;have e:(hc (sp.head t h d).2)[x]?=some ob:=by rw[hhc2,Ko,Qf hx];exact hob
   rw[zQ6]at e;cases hv:(sp.head t h d).2[x]? with
   |none=>rw[hv]at e;simp at e
   |some v=>
    rw[hv]at e;simp at e;subst e;exact VObj.vYt (hin.2 v (Ql hv))
 ·have k1':K o t2 h2 (m2++m)=some r:=by cases o<;>first|exact absurd rfl ho|exact k1
  exact⟨o,t2,h2,m2++m,k1',k2,⟨k3.len,k3.slots,k3.stays.mono (fun x hx=>Qv _ hx),fun x hx=>Q7 _ hx⟩⟩
theorem xQk(ok:vc.Ok P c)(hcall:yXo P c call)(fn:FuncId)(rd:Option Nat):∀(y:Y) (t:List VV) (h:zQa) (m:List Nat) (K:KOut β) (r:β),vx vc call fn rd y t h m K=some r→
  ∃o t' h' m',K o t' h' m'=some r∧(y.x.ok→zQm P c rd y.x (t.map VV.cv) (hc h) o (t'.map VV.cv) (hc h'))∧Tr y.writes t h m t' h' m':=by
 intro y;induction y with
 |skip=>intro t h m K r he;exact⟨_,t,h,m,he,fun _=>zQm.skip,Tr.refl _ _ _ _⟩
 |label l=>intro t h m K r he;exact⟨_,t,h,m,he,fun _=>zQm.label,Tr.refl _ _ _ _⟩
 |exit i=>intro t h m K r he;exact⟨_,t,h,m,he,fun _=>zQm.exit,Tr.refl _ _ _ _⟩
 |goto i=>intro t h m K r he;exact⟨_,t,h,m,he,fun _=>zQm.goto,Tr.refl _ _ _ _⟩
 |ret=>intro t h m K r he;exact⟨_,t,h,m,he,fun _=>zQm.ret,Tr.refl _ _ _ _⟩
 | rangeFunc g ps a b _ _=>
  intro t h m K r he;simp only[vx]at he;split at he<;>(try (simp at he;done))
  rename_i hin;split at he<;>(try (simp at he;done))
  rename_i gf first captured hg
  obtain⟨v,h1,m1,k1,k2,k3,k4,_⟩:=(hcall _ _ _ _ _ _ _ he).resolve_right (by rintro⟨_,_,_,h,_⟩;simp at h)
  obtain⟨o,h2,g1,g2,ob,g3⟩:=wZf k1;refine⟨o,t,h2,m1,g1,fun hok=>?_,rfl,fun _ _=>rfl, ?_,k4⟩
  ·have hev:=zZh ok t g
   rw[hg]at hev;simp only[VV.cv,VV.zQx]at hev;have hh:hc (h++[.loop fn t ps a b .ready none])=hc h++[.loop fn (t.map VV.cv) ps a.x b.x .ready none]:=by rw[zWb];rfl
   have ha:(first++[VV.yield h.length]++captured).map VV.cv=first.map VV.cv++[.yield (hc h).length]++captured.map VV.cv:=by
    simp[VV.cv,zW8]
   rw[hh,ha]at k2;rw[←zW8]at g2;exact zQm.vWk fn (wYh hin) hev k2 hok.1 hok.2 (.inl ⟨rfl,g2⟩)
  ·rw[g3]
   refine⟨by have:=k3.1;simp at this⊢;omega,fun x hx hn=>?_⟩
   rw[Qd (by omega)]
   have:=k3.2 x (by simp;omega) hn
   rw[this,Qb hx]
 | region id ops draw plan nl=>
  intro t h m K r he;simp only[vx]at he;obtain⟨out,t',h',m',k1,k2,k3,k4⟩:=wZ3 ok hcall nl ops draw rd _ _ _ _ _ _ he;refine⟨out,t',h',m', ?_,fun hok=>?_,k4⟩
  ·rcases k1 with⟨rfl,k1⟩|⟨v,rfl,rfl,_,k1⟩
   ·exact k1
   ·exact k1
  cases draw with
  |false=>
   refine zQm.region ?_;have:=k2 rfl;simpa[wKp,Wd]using this
  |true=>
   exact zQm.wXi ok.base (hok rfl) (by simpa[wKp]using k3 rfl)
 | seq a b iha ihb=>
  intro t h m K r he;simp only[vx]at he;obtain⟨o,t1,h1,m1,k1,k2,k3⟩:=iha _ _ _ _ _ he;by_cases ho:o=.normal
  ·subst ho
   obtain⟨o2,t2,h2,m2,g1,g2,g3⟩:=ihb _ _ _ _ _ k1;exact⟨o2,t2,h2,m2,g1,fun hok=>zQm.seq (k2 hok.1) (g2 hok.2),k3.trans g3 (fun x hx=>Qv _ hx) (fun x hx=>Q7 _ hx)⟩
  ·have k1':K o t1 h1 m1=some r:=by cases o<;>first|exact absurd rfl ho|exact k1
   exact⟨o,t1,h1,m1,k1',fun hok=>zQm.xKq ho (k2 hok.1),k3.mono (fun x hx=>Qv _ hx)⟩
 | cond x a b iha ihb=>
  intro t h m K r he;simp only[vx]at he;split at he<;>(try (simp at he;done))
  rename_i q hq;have hev:=zZh ok t x;rw[hq]at hev;have hset:∀q',q=q'→known x t q'=t:=by
   intro q' e;subst e;cases x with
   |tmp i=>
    simp only[evV,List.getD]at hq;cases hi:t[i]? with
    |none=>simp[hi]at hq
    |some v=>simp[hi]at hq;subst hq;exact set_self hi
   |_=>rfl
  split at he
  ·rw[hset true rfl]at he
   obtain⟨o2,t2,h2,m2,g1,g2,g3⟩:=iha _ _ _ _ _ he;exact⟨o2,t2,h2,m2,g1,fun hok=>zQm.cond_true hev (g2 hok.1),g3.mono (fun x hx=>Qv _ hx)⟩
  ·rw[hset false rfl]at he
   obtain⟨o2,t2,h2,m2,g1,g2,g3⟩:=ihb _ _ _ _ _ he;exact⟨o2,t2,h2,m2,g1,fun hok=>zQm.cond_false hev (g2 hok.2),g3.mono (fun x hx=>Q7 _ hx)⟩
 |block id b ih=>
  intro t h m K r he;simp only[vx]at he;obtain⟨o,t1,h1,m1,k1,k2,k3⟩:=ih _ _ _ _ _ he;refine⟨o.inBlock id,t1,h1,m1, ?_,fun hok=>zQm.block (k2 hok),k3⟩
  cases o<;>simp only[Out.inBlock]<;>first|exact k1|(simp only at k1;split<;>simp_all)
 |scope b ih=>
  intro t h m K r he;simp only[vx]at he;obtain⟨o,t1,h1,m1,k1,k2,k3⟩:=ih _ _ _ _ _ he;cases o with
  |goto l=>simp at k1
  |normal=>exact⟨_,t1,h1,m1,k1,fun hok=>zQm.scope (zZw.leave (by simp) (k2 hok)),k3⟩
  |exit i=>exact⟨_,t1,h1,m1,k1,fun hok=>zQm.scope (zZw.leave (by simp) (k2 hok)),k3⟩
  |ret=>exact⟨_,t1,h1,m1,k1,fun hok=>zQm.scope (zZw.leave (by simp) (k2 hok)),k3⟩
  |panic v=>exact⟨_,t1,h1,m1,k1,fun hok=>zQm.scope (zZw.leave (by simp) (k2 hok)),k3⟩
 |join sp b ih=>
  intro t h m K r he;simp only[vx]at he;exact vJi (x:=b.x) (Q:=b.x.ok) (fun t h K r he=>ih t h [] K r he) he
 | loop sp0 b ih=>
  intro t h m K r he;simp only[vx]at he;split at he<;>(try (simp at he;done))
  obtain⟨o,t',h',m',k1,k2,k3⟩:=vJc (x:=b.x) (Q:=b.x.ok) (fun t h K r he=>by
   obtain⟨o,t',h',m',q1,q2,q3⟩:=ih t h [] K r he;exact⟨o,t',h',m',q1,q2,q3.mono fun x hx=>Qv _ hx⟩) he
  exact⟨o,t',h',m',k1,fun hok=>zQm.loop (k2 hok),k3⟩
theorem vXn{l:Nat}:∀{y:Y},y.hasL l=false→yWi y.x l=none:=by
 intro y;induction y with
 |seq a b iha ihb=>
  intro h;simp only[Y.hasL,Bool.or_eq_false_iff]at h;simp only[Y.x,yWi,iha h.1,ihb h.2]
 |label l'=>intro h;simp only[Y.hasL]at h;simp only[Y.x,yWi,h];rfl
 |join sp b ih=>intro h;exact ih h
 |_=>intro h;simp[Y.x,yWi]
theorem wY7(ok:vc.Ok P c)(hcall:yXo P c call)(fn:FuncId)(rd:Option Nat)(l:Nat):∀(y:Y) (t:List VV) (h:zQa) (m:List Nat) (K:KOut β) (r:β),xQl vc call fn rd l y t h m K=some r→
  ∃rest o t' h' m',yWi y.x l=some rest∧K o t' h' m'=some r∧(y.x.ok→zQm P c rd rest (t.map VV.cv) (hc h) o (t'.map VV.cv) (hc h'))∧Tr y.writes t h m t' h' m':=by
 intro y;induction y with
 | seq a b iha ihb=>
  intro t h m K r he;simp only[xQl]at he;split at he
  ·obtain⟨rest,o,t1,h1,m1,q1,k1,k2,k3⟩:=iha _ _ _ _ _ he
   have hf:yWi (Y.seq a b).x l=some (.seq rest b.x):=by simp only[Y.x,yWi,q1]
   by_cases ho:o=.normal
   ·subst ho
    obtain⟨o2,t2,h2,m2,g1,g2,g3⟩:=xQk ok hcall fn rd b _ _ _ _ _ k1;exact⟨_,o2,t2,h2,m2,hf,g1,fun hok=>zQm.seq (k2 hok.1) (g2 hok.2),k3.trans g3 (fun x hx=>Qv _ hx) (fun x hx=>Q7 _ hx)⟩
   ·have k1':K o t1 h1 m1=some r:=by cases o<;>first|exact absurd rfl ho|exact k1
    exact⟨_,o,t1,h1,m1,hf,k1',fun hok=>zQm.xKq ho (k2 hok.1),k3.mono (fun x hx=>Qv _ hx)⟩
  ·rename_i hl
   obtain⟨rest,o,t1,h1,m1,q1,k1,k2,k3⟩:=ihb _ _ _ _ _ he;exact⟨rest,o,t1,h1,m1,by simp only[Y.x,yWi,vXn hl,q1],k1,fun hok=>k2 hok.2,k3.mono (fun x hx=>Q7 _ hx)⟩
 |label l'=>
  intro t h m K r he;simp only[xQl]at he;split at he<;>(try (simp at he;done))
  rename_i hl;subst hl;exact⟨.skip,_,t,h,m,by simp[Y.x,yWi],he,fun _=>zQm.skip,Tr.refl _ _ _ _⟩
 |_=>intro t h m K r he;simp[xQl]at he
theorem vxB_ok(ok:vc.Ok P c)(hcall:yXo P c call)(fn:FuncId)(rd:Option Nat):∀(y:Y) (t:List VV) (h:zQa) (m:List Nat) (K:KOut β) (r:β),vxB vc call fn rd y t h m K=some r→
  ∃o t' h' m',K o t' h' m'=some r∧(y.x.ok→zQm P c rd y.x (t.map VV.cv) (hc h) o (t'.map VV.cv) (hc h'))∧Tr y.writes t h m t' h' m':=by
 intro y;induction y with
 | seq a b _ ihb=>
  intro t h m K r he;simp only[vxB]at he;obtain⟨o,t1,h1,m1,k1,k2,k3⟩:=xQk ok hcall fn rd a _ _ _ _ _ he;by_cases ho:o=.normal
  ·subst ho
   obtain⟨o2,t2,h2,m2,g1,g2,g3⟩:=ihb _ _ _ _ _ k1;exact⟨o2,t2,h2,m2,g1,fun hok=>zQm.seq (k2 hok.1) (g2 hok.2),k3.trans g3 (fun x hx=>Qv _ hx) (fun x hx=>Q7 _ hx)⟩
  ·have k1':K o t1 h1 m1=some r:=by cases o<;>first|exact absurd rfl ho|exact k1
   exact⟨o,t1,h1,m1,k1',fun hok=>zQm.xKq ho (k2 hok.1),k3.mono (fun x hx=>Qv _ hx)⟩
 | scope b _=>
  intro t h m K r he;simp only[vxB]at he;obtain⟨o,t1,h1,m1,k1,k2,k3⟩:=xQk ok hcall fn rd b _ _ _ _ _ he;cases o with
  | goto l=>
   simp only at k1;split at k1<;>(try (simp at k1;done))
   obtain⟨rest,o2,t2,h2,m2,q1,g1,g2,g3⟩:=wY7 ok hcall fn rd l b _ _ _ _ _ k1;have tr:=k3.trans g3 (S:=b.writes) (fun x hx=>hx) (fun x hx=>hx)
   have fin:(∀l,o2≠.goto l)→K o2 t2 h2 m2=some r→∃o t' h' m',K o t' h' m'=some r∧((Y.scope b).x.ok→zQm P c rd (Y.scope b).x (t.map VV.cv) (hc h) o (t'.map VV.cv) (hc h'))∧Tr (Y.scope b).writes t h m t' h' m':=
    fun ho hk=>⟨o2,t2,h2,m2,hk,fun hok=>zQm.scope (zZw.jump (k2 hok) q1 (zZw.leave (fun l' e=>absurd e (ho l')) (g2 hok))),tr⟩
   cases o2 with
   |goto i=>simp at g1
   |normal=>exact fin (by simp) g1
   |exit i=>exact fin (by simp) g1
   |ret=>exact fin (by simp) g1
   |panic v=>exact fin (by simp) g1
  |normal=>exact⟨_,t1,h1,m1,k1,fun hok=>zQm.scope (zZw.leave (by simp) (k2 hok)),k3⟩
  |exit i=>exact⟨_,t1,h1,m1,k1,fun hok=>zQm.scope (zZw.leave (by simp) (k2 hok)),k3⟩
  |ret=>exact⟨_,t1,h1,m1,k1,fun hok=>zQm.scope (zZw.leave (by simp) (k2 hok)),k3⟩
  |panic v=>exact⟨_,t1,h1,m1,k1,fun hok=>zQm.scope (zZw.leave (by simp) (k2 hok)),k3⟩
 |_=>intro t h m K r he;exact xQk ok hcall fn rd _ _ _ _ _ _ he
theorem wJ3(ok:vc.Ok P c){h:zQa}{t:List VV}{rv:ResultVar}{K:VV→Option β}(he:wXh vc.ty h t rv K=some r):∃v,K v=some r∧yJg c.ty (hc h) (t.map VV.cv) rv=some v.cv:=by
 have hget:∀i,(t.map VV.cv).getD i zWt=(t.getD i .undef).cv:=fun i=>by simp only[List.getD,Qt];cases t[i]?<;>rfl
 cases rv with
 |tmp i=>exact⟨_,he,by simp only[yJg,hget]⟩
 |cell a ty'=>
  simp only[wXh]at he;obtain⟨v,k1,k2⟩:=wK5 he;exact⟨v,k1,by simp only[yJg,hget,←ok.ty];exact k2⟩
theorem yQy(ok:vc.Ok P c){h:zQa}{t:List VV}:∀{rs:List ResultVar} {K:List VV→Option β},zJc vc.ty h t rs K=some r→∃vs,K vs=some r∧zXj c.ty (hc h) (t.map VV.cv) rs=some (vs.map VV.cv)
 |[],K,he=>⟨[],he,rfl⟩
 |rv::rs,K,he=>by
  simp only[zJc]at he;obtain⟨v,k1,k2⟩:=wJ3 ok he;obtain⟨vs,g1,g2⟩:=yQy ok k1;exact⟨_,g1,by simp only[zXj,k2,g2];rfl⟩
theorem vXp:∀(ps:List Tmp) (args ts:List VV),((ps.zip args).foldl (fun T p=>T.set p.1 p.2) ts).map VV.cv=(ps.zip (args.map VV.cv)).foldl (fun T p=>T.set p.1 p.2) (ts.map VV.cv)
 |[],_,ts=>rfl
 |p::ps,[],ts=>rfl
 |p::ps,a::args,ts=>by
  simp only[List.zip_cons_cons,List.foldl_cons,Qg];rw[vXp ps args,Jb]
theorem uXf{l:Nat}{f:FuncId}{ts:List VV}{ps:Array Tmp}{a b:Y}{o:Out}{h:zQa}{m:List Nat}{K:KVal β}(he:endV l f ts ps a b o h m K=some r)(hl:h[l]? =some (.loop f ts ps a b .busy none)):
  ∃v h' m',K v h' m'=some r∧endC l o (hc h)=some (.ret,[v.cv],hc h')∧(∀x∈m,x∈m')∧h'.length=h.length∧(∀x,x≠l→h'[x]?=h[x]?)∧(l∉m'→h'[l]?=some (.loop f ts ps a b .ready none)):=by
 have hl':(hc h)[l]?=some (.loop f (ts.map VV.cv) ps a.x b.x .busy none):=by rw[zQ6,hl];rfl
 have hlt:l<h.length:=(List.getElem?_eq_some_iff.1 hl).1;unfold endV at he;split at he<;>(try (simp at he;done))
 rename_i j hj;split at he
 ·refine⟨_,_,_,he, ?_,fun _ h=>h,by simp,fun x hx=>Qd (Jw hx),fun _=>Qk hlt⟩
  simp only[endC,hl',hj,zQy];rfl
 ·refine⟨_,_,_,he, ?_,fun x hx=>Qp _ hx,by simp,fun x hx=>Qd (Jw hx),fun hn=>absurd (Jg ..) hn⟩
  simp only[endC,hl',hj,zQy];rfl
theorem wJx{m:List Nat}{h h':zQa}(s:zQe m h h')(new:Option VObj):zQe m h (yZp h' new):=by
 cases new with
 |none=>exact s
 |some b=>exact s.push _
theorem vWa(ok:vc.Ok P c)(ops:Array Oper):∀(l:List Nat) (t:List VV) (h:zQa) (m:List Nat) (K:List VV→zQa→List Nat→Option β) (r:β),runV vc ops l t h m K=some r→
  ∃t' h' m',K t' h' m'=some r∧runS c ops l (t.map VV.cv) (hc h)=some (t'.map VV.cv,hc h')∧zQe m' h h'∧∀x∈m,x∈m':=by
 intro l;induction l with
 |nil=>intro t h m K r he;exact⟨t,h,m,he,rfl,zQe.refl _ _,fun _ h=>h⟩
 | cons i l ih=>
  intro t h m K r he;simp only[runV]at he;split at he<;>(try (simp at he;done))
  rename_i o ho;split at he<;>(try (simp at he;done))
  rename_i hgd;split at he<;>(try (simp at he;done))
  ·obtain⟨v,new,g1,g2⟩:=wXq (zZh ok t) he
   obtain⟨t',h',m',k1,k2,k3,k4⟩:=ih _ _ _ _ _ g1;rw[zZu]at k2;rw[ok.ty]at g2;have hh:hc (yZp h new)=hc h++(new.map VObj.ho).toList:=by
    cases new with
    |none=>simp[yZp]
    |some b=>simp[hc,yZp]
   rw[hh]at k2;refine⟨t',h',m',k1, ?_,(wJx (zQe.refl m h) new).trans k3 k4,k4⟩;simp only[runS,ho,vQn,hgd,g2,k2]
  ·rename_i hk
   obtain⟨v,h2,g1,g2,g3,g4⟩:=wXr (zZh ok t) he;obtain⟨t',h',m',k1,k2,k3,k4⟩:=ih _ _ _ _ _ g1;rw[zZu]at k2;rw[ok.ty]at g2 g3;refine⟨t',h',m',k1, ?_,(g4.mono fun x hx=>Qv _ hx).trans k3 k4,fun x hx=>k4 x (Q7 _ hx)⟩
   simp only[runS,ho,vQn,hgd,g2,g3,k2]
theorem sV_ok(ok:vc.Ok P c):∀(y:Y) (t:List VV) (h:zQa) (m:List Nat) (K:List VV→zQa→List Nat→Option β) (r:β),sV vc y t h m K=some r→
  ∃t' h' m',K t' h' m'=some r∧SOk P c y.x (t.map VV.cv) (hc h) (t'.map VV.cv) (hc h')∧zQe m' h h'∧∀x∈m,x∈m':=by
 intro y;induction y with
 |skip=>intro t h m K r he;exact⟨t,h,m,he,SOk.skip,zQe.refl _ _,fun _ h=>h⟩
 |region id ops draw plan nl=>
  intro t h m K r he;simp only[sV]at he;split at he<;>(try (simp at he;done))
  obtain⟨t',h',m',k1,k2,k3,k4⟩:=vWa ok ops _ _ _ _ _ _ he;exact⟨t',h',m',k1,SOk.region ok.base k2,k3,k4⟩
 |seq a b iha ihb=>
  intro t h m K r he;simp only[sV]at he;obtain⟨t1,h1,m1,k1,k2,k3,k4⟩:=iha _ _ _ _ _ he;obtain⟨t2,h2,m2,g1,g2,g3,g4⟩:=ihb _ _ _ _ _ k1;exact⟨t2,h2,m2,g1,SOk.seq k2 g2,k3.trans g3 g4,fun x hx=>g4 x (k4 x hx)⟩
 | cond x a b iha ihb=>
  intro t h m K r he;simp only[sV]at he;split at he<;>(try (simp at he;done))
  rename_i q hq;have hev:=zZh ok t x;rw[hq]at hev;split at he
  ·obtain⟨t',h',m',k1,k2,k3,k4⟩:=iha _ _ _ _ _ he
   exact⟨t',h',m',k1,SOk.cond_true hev k2,k3,k4⟩
  ·obtain⟨t',h',m',k1,k2,k3,k4⟩:=ihb _ _ _ _ _ he
   exact⟨t',h',m',k1,SOk.cond_false hev k2,k3,k4⟩
 |_=>intro t h m K r he;simp[sV]at he
theorem uWh{pan:Option CV}{pv:VV}(h:panV pan=some pv):pv.cv=panC pan:=by
 unfold panV at h;split at h
 ·simp at h;subst h;rfl
 ·split at h<;>(try (simp at h;done))
  simp at h;subst h;rfl
theorem uXh(ok:vc.Ok P c){g:FuncId}{args:List VV}{pan:Option CV}{h:zQa}{m:List Nat}{K:zQa→List Nat→Option β}(he:dfrV vc g args pan h m K=some r):
  ∃h' m',K h' m'=some r∧vZ6 P c g (args.map VV.cv) pan (hc h) (hc h')∧zQe m' h h'∧∀x∈m,x∈m':=by
 unfold dfrV at he;split at he<;>(try (simp at he;done))
 rename_i gd hgd;obtain⟨xf,hxf,e1,e2,e3⟩:=ok.code g gd hgd;split at he<;>(try (simp at he;done))
 rename_i hres;split at he<;>(try (simp at he;done))
 rename_i id ops plan nl y hbody;split at he<;>(try (simp at he;done))
 rename_i l hl;split at he<;>(try (simp at he;done))
 rename_i o0 pv ho hpv;split at he<;>(try (simp at he;done))
 rename_i hr hg0;obtain⟨t1,h1,m1,k1,k2,k3,k4⟩:=vWa ok ops _ _ _ _ _ _ he;obtain⟨t2,h2,m2,g1,g2,g3,g4⟩:=sV_ok ok _ _ _ _ _ _ k1;refine⟨h2,m2,g1, ?_,k3.trans g3 g4,fun x hx=>g4 x (k4 x hx)⟩
 refine vZ6.of ok.base hxf (by rw[e2];exact hres) (id:=id) (ops:=ops) (plan:=plan) (y:=y.x) (by rw[e3,hbody];rfl) hl ho hg0 hr ?_ g2
 rw[zZu,uWh hpv]at k2;rw[←k2,Qw,Wb,e1,Qh];rfl
theorem uXg{y:Y}{q:Nat×Array Oper×Nat×Oper}(h:dfrY y=some q):∃plan,y=.region q.1 q.2.1 false plan q.2.2.1∧q.2.1[q.2.1.size-1]?=some q.2.2.2∧q.2.2.2.guard=none:=by
 unfold dfrY at h;split at h<;>(try (simp at h;done))
 split at h<;>(try (simp at h;done))
 split at h<;>(try (simp at h;done))
 rename_i o ho;split at h<;>(try (simp at h;done))
 rename_i hg;simp at h;subst h;exact⟨_,rfl,ho,hg⟩
theorem vX1{ρ:Operand→VV}{ρc:Operand→CV}(hρ:∀x,ρc x=(ρ x).cv){o:Op}{g:FuncId}{args:List VV}(h:vX2 ρ o=some (g,args)):
  ∃as cs,wWa ρc o=some (g,as,cs)∧as++cs=args.map VV.cv:=by
 unfold vX2 at h;split at h<;>(try (simp at h;done))
 rename_i cl;split at h<;>(try (simp at h;done))
 rename_i f hcal;split at h<;>(try (simp at h;done))
 rename_i g0 first captured hf
 simp only[Qa,Je]at h;obtain⟨rfl,rfl⟩:=h;refine⟨first.map VV.cv++cl.args.toList.map ρc,captured.map VV.cv, ?_, ?_⟩
 ·simp only[wWa,hcal,hρ,hf,VV.cv,VV.zQx]
 ·simp only[Qw,J5]
  congr 2;congr 1
  funext x;exact hρ x
theorem vY9(ok:vc.Ok P c)(hcall:yXo P c call)(fn:FuncId):∀(y:Y) (t:List VV) (h:zQa) (m:List Nat) (K:List VV→zQa→List Nat→Option β) (r:β),vxBD vc call fn y t h m K=some r→
  ∃t' h' m',K t' h' m'=some r∧(y.x.ok→yQq P c y.x (t.map VV.cv) (hc h) (t'.map VV.cv) (hc h'))∧zQe m' h h'∧∀x∈m,x∈m':=by
 intro y;induction y with
 | seq a b _ ihb=>
  intro t h m K r he;simp only[vxBD]at he;split at he
  ·rename_i q hq
   obtain⟨plan,rfl,ho,hg⟩:=uXg hq;obtain⟨out,t1,h1,m1,k1,k2,k3,k4⟩:=wZ3 ok hcall _ _ _ none _ _ _ _ _ _ he;rcases k1 with⟨rfl,k1⟩|⟨_,_,_,_,k1⟩
   rotate_left
   ·simp at k1
   dsimp only at k1;split at k1<;>(try (simp at k1;done))
   rename_i g args hd;obtain⟨as,cs,d1,d2⟩:=vX1 (zZh ok t1) hd;obtain⟨o,t2,h2,m2,g1,g2,g3⟩:=xQk ok hcall fn none b _ _ _ _ _ k1;have hsz:q.2.1.size=(q.2.1.size-1)+1:=by
    have:=(Array.getElem?_eq_some_iff.1 ho).1;omega
   have hpre:=k2 rfl;simp only[J5,Wd,List.map_id']at hpre;have fin:∀pan,vZ3 o pan→(dfrV vc g args pan h2 m2 fun h m=>K t2 h m)=some r→∃t' h' m',K t' h' m'=some r∧((Y.seq (.region q.1 q.2.1 false plan q.2.2.1) b).x.ok→yQq P c (Y.seq (.region q.1 q.2.1 false plan q.2.2.1) b).x (t.map VV.cv) (hc h) (t'.map VV.cv) (hc h'))∧zQe m' h h'∧∀x∈m,x∈m':=by
    intro pan hp hr;obtain⟨h3,m3,j1,j2,j3,j4⟩:=uXh ok hr;refine⟨t2,h3,m3,j1,fun hok=>?_,(k4.stays.trans g3.stays g3.sub).trans j3 j4,fun x hx=>j4 x (g3.sub x (k4.sub x hx))⟩
    have hy:=g2 hok.2;rw[zZu]at hy;exact yQq.defer ok.base hsz ho hg hpre d1 hy hp (by rw[d2];exact j2)
   cases o with
   |normal=>exact fin none rfl g1
   |ret=>exact fin none rfl g1
   |panic v=>exact fin (some v) rfl g1
   |exit i=>simp at g1
   |goto i=>simp at g1
  ·obtain⟨o,t1,h1,m1,k1,k2,k3⟩:=xQk ok hcall fn none a _ _ _ _ _ he
   cases o with
   |normal=>
    obtain⟨t2,h2,m2,g1,g2,g3,g4⟩:=ihb _ _ _ _ _ k1;exact⟨t2,h2,m2,g1,fun hok=>yQq.seq (k2 hok.1) (g2 hok.2),k3.stays.trans g3 g4,fun x hx=>g4 x (k3.sub x hx)⟩
   |ret=>exact⟨t1,h1,m1,k1,fun hok=>yQq.uWn (.inr rfl) (zQm.xKq (by simp) (k2 hok.1)),k3.stays,k3.sub⟩
   |panic v=>simp at k1
   |exit i=>simp at k1
   |goto i=>simp at k1
 |_=>intro t h m K r he;simp[vxBD]at he
theorem yZ5(ok:vc.Ok P c):∀n,yXo P c (vxF (β:=β) vc n)
 |0=>fun f args h m K KP r he=>by simp[vxF]at he
 | n+1=>fun f args h m K KP r he=>by
  cases f with
  | yl l=>
   simp only[vxF]at he;split at he<;>(try (simp at he;done))
   rename_i f ts ps a b st pend hl;split at he<;>(try (simp at he;done))
   split at he<;>(try (simp at he;done))
   rename_i hn;have hl':(hc h)[l]?=some (.loop f (ts.map VV.cv) ps a.x b.x .ready none):=by rw[zQ6,hl];rfl
   have hlt:l<h.length:=(List.getElem?_eq_some_iff.1 hl).1;obtain⟨o,t1,h1,m1,k1,k2,k3⟩:=xQk ok (yZ5 ok n) f (some l) a _ _ _ _ _ he;split at k1<;>(try (simp at k1;done))
   split at k1<;>(try (simp at k1;done))
   rename_i hm1;have hm1:l∉m1:=by simpa using hm1
   obtain⟨o2,t2,h3,m3,g1,g2,g3⟩:=xQk ok (yZ5 ok n) f (some l) b _ _ _ _ _ k1;split at g1<;>(try (simp at g1;done))
   rename_i hm3;have hm3:l∉m3:=by simpa using hm3
   have e1:h1[l]?=some (.loop f ts ps a b .ready none):=by rw[k3.stays.2 l hlt hm1];exact hl
   have e1':(hc h1)[l]?=some (.loop f (ts.map VV.cv) ps a.x b.x .ready none):=by rw[zQ6,e1];rfl
   have hlt1:l<h1.length:=(List.getElem?_eq_some_iff.1 e1).1;have e3:h3[l]?=some (.loop f ts ps a b .busy none):=by
    rw[g3.stays.2 l (by simpa using hlt1) hm3];exact Qk hlt1
   obtain⟨v,h4,m4,j1,j2,j3,j4,j5,j6⟩:=uXf g1 e3;refine .inl ⟨v,h4,m4,j1, ?_,⟨?_,fun x hx hn'=>?_⟩,fun x hx=>j3 x (by simp[hx]),fun l' e=>?_⟩
   ·refine zQo.round hl' (by simpa using hn) (fun hoka=> ?_) (h1:=hc h1) (h2:=hc (h1.set l (.loop f ts ps a b .busy none))) ?_ g2 j2
    ·rw[←vXp];exact k2 hoka
    ·simp only[wJp,e1',zQy];rfl
   ·have q1:=k3.stays.1
    have q2:=g3.stays.1;simp at q2;omega
   ·by_cases hxl:x=l
    ·subst hxl;rw[j6 hn',hl]
    ·have q1:=k3.stays.1
     rw[j5 x hxl,g3.stays.2 x (by simp;omega) fun hm=>hn' (j3 x (by simp[hm])),Qd (Jw hxl),k3.stays.2 x hx fun hm=>hn' (j3 x (by simp[hm]))]
   ·simp at e;subst e
    exact zQo.wXg hl'
  |fn f=>
  simp only[vxF]at he;split at he<;>(try (simp at he;done))
  rename_i yf hyf;obtain⟨xf,hxf,e1,e2,e3⟩:=ok.code f yf hyf;have hbody:xf.body.ok:=by obtain⟨_,_,_,_,_,_,h⟩:=ok.base.code f xf hxf;exact h
  have hargs:(args++List.replicate (yf.ntmps-args.length) VV.undef).map VV.cv=args.map VV.cv++List.replicate (xf.ntmps-(args.map VV.cv).length) zWt:=by
   rw[Qw,Wb,e1,Qh];rfl
  split at he
  ·obtain⟨t',h',m',k1,k2,k3,k4⟩:=vY9 ok (yZ5 ok n) f yf.body _ _ _ _ _ he
   replace k2:=k2 (by rw[←e3];exact hbody)
   rw[hargs,←e3]at k2;obtain⟨vs,g1,g2⟩:=yQy ok k1;obtain⟨vs2,h2,m2,y0,y1,y2,y3,y4⟩:=wXx _ g1;have hF:=zQo.bodyD ok.base hxf (fun _=>k2) (by rw[e2];exact g2)
   rw[←zXa]at hF;exact .inl ⟨_,_,_,y0,hF.vJp ⟨f,rfl⟩ (y2.one y1),k3.trans y3 y4,fun y hy=>y4 y (k4 y hy),by simp⟩
  obtain⟨o,t',h',m',k1,k2,k3⟩:=vxB_ok ok (yZ5 ok n) f none yf.body _ _ _ _ _ he;replace k2:=k2 (by rw[←e3];exact hbody)
  rw[hargs,←e3]at k2;have fin:(o=.normal∨o=.ret)→(frzL (if yf.frz then frzR t' h' yf.results else []) t' h' m' fun h m=>zJc vc.ty h t' yf.results fun vs=>layL (if yf.lay then vJf yf.layE yf.layM vs else []) vs h m fun vs h m=>K (oneV vs) h m)=some r→∃v h' m',K v h' m'=some r∧zQo P c (.fn f) (args.map VV.cv) (hc h) .ret [v.cv] (hc h')∧zQe m' h h'∧(∀x∈m,x∈m')∧∀l,Who.fn f=.yl l→∃o,(hc h)[l]?=some o∧∀N φ St w,Rel N φ St (hc h) w→φ l≠some .dead:=by
   intro ho hr;obtain⟨h1,m1,j0,j1,j2,j3⟩:=wX9 (P:=P) (c:=c) (rd:=none) (x:=xf.body) ho _ hr;obtain⟨vs,g1,g2⟩:=yQy ok j0;obtain⟨vs2,h2,m2,y0,y1,y2,y3,y4⟩:=wXx _ g1
   have hF:=zQo.body ok.base hxf ho (fun _=>j1 _ _ k2) (by rw[e2];exact g2)
   rw[←zXa]at hF;exact⟨_,_,_,y0,hF.vJp ⟨f,rfl⟩ (y2.one y1),(k3.stays.trans j2 j3).trans y3 y4,fun y hy=>y4 y (j3 y (k3.sub y hy)),by simp⟩
  cases o with
  |normal=>exact .inl (fin (.inl rfl) k1)
  |ret=>exact .inl (fin (.inr rfl) k1)
  |exit i=>simp at k1
  |goto i=>simp at k1
  |panic v=>
   simp only at k1;split at k1<;>(try (simp at k1;done))
   rename_i u x;exact .inr ⟨.ifc u x,h',m',k1,zQo.wYq ok.base hxf fun _=>k2,k3.stays,k3.sub⟩
theorem yY4:∀{rs:List C} {v:VV} {h:zQa} {K:Els rs→Option β},wQf rs v h K=some r→∃d,K d=some r∧FR (hc h) v.cv (oneV (zQ5 rs d)).cv
 |[],v,h,K,he=>by
  simp only[wQf]at he;split at he<;>(try (simp at he;done))
  obtain⟨d,h1,h2,_⟩:=yZz he;refine⟨d,h1, ?_⟩;simp only[VV.cv,VV.zQx];intro N φ St w u R hu;cases hu with|tuple _ us hus=>exact .tuple _ _ (h2 _ _ _ _ _ R hus)
 |[c],v,h,K,he=>by
  simp only[wQf]at he;obtain⟨d,h1,h2,_⟩:=xW3 he;exact⟨d,h1,by rw[zXa];simp only[zQ5,Qg,Q8,zQv,oneOf];exact h2⟩
 | a::b::cs,v,h,K,he=>by
  simp only[wQf]at he;split at he<;>(try (simp at he;done))
  obtain⟨d,h1,h2,_⟩:=yZz he;refine⟨d,h1, ?_⟩;have htup:(oneV (zQ5 (a::b::cs) d)).cv=.tuple ((zQ5 (a::b::cs) d).map VV.cv):=by
   rw[zXa];cases cs<;>rfl
  rw[htup];simp only[VV.cv,VV.zQx];intro N φ St w u R hu;cases hu with|tuple _ us hus=>exact .tuple _ _ (h2 _ _ _ _ _ R hus)
theorem zW2.yY7 {f:FuncId}{args:List CV}{v v':CV}{H':Heap}(h:zQo P c (.fn f) args [] .ret [v] H')(he:FR H' v v'):zW2 P c f args v':=by
  obtain⟨hent,hC⟩:=h;refine⟨hent,fun St w us hst hg hu=>(hC w.heap.size Phi0 St w us (Rel.xYw hst) hg hu).mono ?_⟩
  intro e w' hp;cases e with
  |outgrown=>exact hp.elim
  |panicked ch=>obtain⟨_,_,_,_,_,h3,_⟩:=hp;simp at h3
  | returned u=>
    obtain⟨φ',St',l,c1,_,h3,hv⟩:=hp;simp at h3;subst h3;have e1:=he _ _ _ _ _ l.rel hv;have f:=l.frm;refine⟨u,Froz φ' St' H',rfl, ?_, ?_,e1⟩
    · exact { ext :=fun _=> .refl _,st:=fun r j h=> .inl (f.st r j h),keep:=f.keep,size:=f.size,
              stNew:=fun r j h=>by
                rcases h with h|⟨b,base,size,cs,hb,_⟩|h
                · rcases f.stNew r j h with h|h|⟨b,e,hb,_⟩
                  ·exact .inl h
                  ·exact .inr (.inl h)
                  ·simp[Phi0]at hb
                ·exact .inr (.inl (l.rel.own b r base size hb).1)
                · obtain⟨b,rs,hb,hh⟩:=h.ent
                  exact .inr (.inl (l.rel.lt hb hh).1),
              blkNew:=fun b e r hb=>by simp[Phi0]at hb,
              keepBlk:=fun r hr _=>f.keepBlk r hr (by simp[Phi0]),
              idNew:=fun _ _ _=>rfl,os:=f.os,output:=f.output,tape:=f.tape}
    · intro r j h
      rcases h with h|⟨b,base,size,cs,hb,_⟩|h
      ·exact l.rel.stLt r j h
      ·exact(l.rel.lt hb rfl).2
      · obtain⟨b,rs,hb,hh⟩:=h.ent
        exact(l.rel.lt hb hh).2
theorem pureD(ok:vc.Ok P c){n:Nat}{f:FuncId}{p:PFn}(h:∀d,p.fn d=vY8 vc n f p.args p.res d):zXl P c f p:=by
 intro d r hr;rw[h d]at hr;obtain⟨v,h',m',k1,k2,_,_⟩:=(yZ5 ok n (.fn f) _ _ _ _ _ _ hr).resolve_right (by rintro⟨_,_,_,h,_⟩;simp at h)
 obtain⟨d',e1,e2⟩:=yY4 k1;simp only[Qa]at e1;subst e1;exact zW2.yY7 k2 e2
theorem xYp:∀(cs:List C) (d:Els cs),(zQ5 cs d).length=cs.length
 |[],d=>rfl
 |[c],d=>rfl
 |c::e::cs,d=>by simp only[zQ5,Jc,xYp (e::cs)]
theorem wWp:∀os:List OC,(zZl os).length=os.length
 |[]=>rfl
 |o::os=>by simp only[zZl,Jc,wWp os]
theorem chkO{α:Type}{X B:List Nat}{d r:α}(h:(if(wZg X&&X.all fun b=>!B.contains b)=true then some d else none)=some r):d=r∧X.Nodup∧∀b∈X,b∉B:=by
 split at h<;>simp at h;rename_i hc;simp only[Qc,Qq,J3,Km,decide_eq_false_iff_not]at hc;exact⟨h,xW0 hc.1,hc.2⟩
theorem tupO(k:Nat)(vs:List VV)(hne:k≠1)(φ:Phi)(St:Stab)(w:World)(u:Value)(hu:VR φ St w (VV.tuple vs).cv u):
  ∃us,VRL φ St w (vs.map VV.cv) us∧∀φ' St' (ws:List CV),ws.length=k→VRL φ' St' w ws us→VR φ' St' w (oneOf ws) u:=by
 simp only[VV.cv,VV.zQx]at hu;cases hu with|tuple _ us hus=>
 refine⟨us,hus,fun φ' St' ws hl hw=>?_⟩
 have:oneOf ws=.tuple ws:=by
  match ws,hl with
  |[],_=>rfl
  |[x],hl=>exact absurd hl.symm hne
  |x::y::ws,_=>rfl
 rw[this];exact .tuple _ _ hw
theorem vK0{h:zQa}:∀{os:List OC} {v:VV} {r:Els (zZl os)},(os.all fun x=>x.code.pl)=true→wQg os v h some=some r→
  ∃vs X B,yWd h vs X B (fun n=>zQ7 os r n) ((zQ5 (zZl os) r).map VV.cv)∧X.Nodup∧(∀b∈X,b∉B)∧
   ∀φ St w u,VR φ St w v.cv u→∃us,VRL φ St w (vs.map VV.cv) us∧∀φ' St' (ws:List CV),ws.length=os.length→VRL φ' St' w ws us→VR φ' St' w (oneOf ws) u
 |[],v,r,hp,he=>by
  simp only[wQg]at he;split at he<;>(try (simp at he;done))
  obtain⟨d,X,B,h1,h2⟩:=yY5 hp he;obtain⟨rfl,h3,h4⟩:=chkO h1;exact⟨_,X,B,h2,h3,h4,tupO _ _ (by simp)⟩
 |[o],v,r,hp,he=>by
  simp only[wQg]at he;obtain⟨d,X,B,h1,h2⟩:=yY5 hp he;obtain⟨rfl,h3,h4⟩:=chkO h1;refine⟨_,X,B,h2,h3,h4,fun φ St w u hu=>⟨[u], .cons _ _ _ _ hu .nil,fun φ' St' ws hl hw=>?_⟩⟩
  match ws,hl with
  |[x],_=>cases hw with|cons _ _ _ _ a _=>exact a
 |o::p::os,v,r,hp,he=>by
  simp only[wQg]at he;split at he<;>(try (simp at he;done))
  obtain⟨d,X,B,h1,h2⟩:=yY5 hp he;obtain⟨rfl,h3,h4⟩:=chkO h1;exact⟨_,X,B,h2,h3,h4,tupO _ _ (by simp)⟩
theorem cell_of{w:World}{r:Nat}{arr:Array Value}{e:TypeId}{fz:Nat×Nat}(hw:w.heap[r]?=some (.cells arr e fz)){j:Nat}{v:Value}(h:w.cell? ⟨r,j,none⟩=some v):arr[j]?=some v:=by
 simpa[World.cell?,hw]using h
theorem wKc{N:Nat}{St:Stab}{w:World}{φ':Phi}{St':Stab}{w':World}{H:Heap}(hst:∀r j,St r j→r<w.heap.size)(hN:N=w.heap.size)(f:Frm 0 Phi0 St w φ' St' w')(R:Rel N φ' St' H w'){c:C}{ds:List (El c)}{k:Nat}{full:Bool}{u1:Value}
    (hs:c.scalar=true) (hk:H[k]?=some (.tail ds.length)) (hv:VR φ' St' w' (VV.sl c ds (some k) full).cv u1):
    ∃φn St2,Frm 0 Phi0 St w φn St2 w'∧Rel N φn St2 (hc ((OC.own c).val0 ds 0).2) w'∧VR φn St2 w' ((OC.own c).val0 ds 0).1.cv u1:=by
  subst hN;by_cases hz:ds.length=0
  · have hnil :ds=[]:=Qr.1 hz
    subst hnil;simp only[OC.val0,Wa,if_true];refine⟨Phi0,St', ?_, ?_, ?_⟩
    · exact { ext:=fun _=> .refl _,st:=f.st,keep:=f.keep,size:=f.size,stNew:=f.stNew,blkNew:=fun b e r hb=>by simp[Phi0]at hb,
              keepBlk:=f.keepBlk,idNew:=fun _ _ h=>h,os:=f.os,output:=f.output,tape:=f.tape}
    ·refine⟨by simp[Phi0],by simp[Phi0],by simp[Phi0],by simp[Phi0],by simp[Phi0],by simp[Phi0],R.stLt,by simp[Phi0],by simp[Phi0],f.size,by simp[Phi0],by simp[Phi0],by simp[hc]⟩
    · simp only[VV.cv,Q8]at hv⊢
      cases hv with|slice _ _ _ _ a cap vs hat hvs hsz hcap hfull htok=>
      exact .slice _ [] none false a cap [] (.inl rfl) .nil (by simp) (by simp) (by simp) trivial
  · simp only [OC.val0]
    rw[Qi hz];simp only[VV.cv]at hv;cases hv with|slice _ _ _ _ a cap vs hat hvs hsz hcap hfull htok=>
    have hml:(ds.map (valC c)).length=ds.length:=by simp
    rw[hml]at htok hcap;obtain⟨t1,t2,t3⟩:=htok;rcases vQi R hk t1 with hvoid|⟨r,used,size,htail⟩
    ·exact absurd (R.void _ _ hvoid).2 hz
    obtain⟨_,t4⟩:=t3 _ _ _ _ htail;obtain⟨a',rfl,ha1,ha2,ha3,ha4⟩:=t4 rfl;obtain⟨ab,aoff,asp⟩:=a';simp only at ha1 ha2 ha3 ha4;subst ha1;subst ha2;obtain⟨hN,_,hus,arr,elem,hw,hasz,hunf⟩:=R.tail _ _ _ _ _ htail
    have hat':At St' w' ⟨ab,aoff,none⟩ vs:=by
      rcases hat with h|⟨a2,h1,h2⟩
      ·exact absurd (by simpa using h) hz
      ·simp at h1;subst h1;exact h2
    have hflat:(ds.map (valC c)).flatMap CV.flat=vecC c ds:=by simp[vecC,Q6]
    rw[hflat]at hvs;let φn:Phi:=fun b=>if b=0 then some (.own ab aoff size)else none
    let St2:Stab:=fun r j=>St' r j∧r≠ab
    have hin:∀{b:Nat} {e:Ent},φn b=some e→b=0∧e=.own ab aoff size:=by
      intro b e hb;simp only[φn]at hb;split at hb
      ·simp at hb;exact⟨by assumption,hb.symm⟩
      ·simp at hb
    refine⟨φn,St2, ?_, ?_, ?_⟩
    · exact { ext:=fun _=> .fresh _,st:=fun r j h=>⟨f.st r j h,fun e=>by have:=hst r j h;omega⟩,keep:=f.keep,size:=f.size,
              stNew:=fun r j h=>f.stNew r j h.1,
              blkNew:=fun b e r hb he=>by
                obtain⟨_,rfl⟩:=hin hb;simp[Ent.has]at he;subst he;exact .inr hN,
              keepBlk:=f.keepBlk,idNew:=fun _ h=>by omega,os:=f.os,output:=f.output,tape:=f.tape}
    · refine⟨?_, ?_, ?_, ?_, ?_, ?_,fun r j h=>R.stLt r j h.1, ?_, ?_,f.size, ?_, ?_, ?_⟩
      ·intro b e hb;obtain⟨rfl,_⟩:=hin hb;simp[hc]
      ·intro b hb;obtain⟨_,h⟩:=hin hb;simp at h
      · intro b r base size' hb
        obtain⟨rfl,h⟩:=hin hb;simp at h;obtain⟨rfl,rfl,rfl⟩:=h;refine⟨hN,vecC c ds,arr,elem,rfl,hw,⟨hasz,hunf⟩, ?_, ?_⟩
        ·rw[zQp,←ha3]at *;omega
        · intro j cj hj
          obtain⟨v,e1,e2⟩:=hvs.get j cj hj;have hcell:=(hat'.2 j v e1).2;refine⟨v,cell_of hw hcell, ?_⟩;have hm:cj∈vecC c ds:=Ql hj;obtain⟨d,_,hd⟩:=J0.1 hm;exact yQb c d hs _ hd _ _ _ _ _ _ _ e2
      ·intro k r used u size hb;obtain⟨_,h⟩:=hin hb;simp at h
      ·intro b r hb;obtain⟨_,h⟩:=hin hb;simp at h
      ·intro b b' e e' r hb hb' _ _;obtain⟨rfl,_⟩:=hin hb;obtain⟨rfl,_⟩:=hin hb';rfl
      · intro b r base size j hb hs
        obtain⟨_,h⟩:=hin hb;simp at h;exact hs.2 h.1
      ·intro k r used u size j hb;obtain⟨_,h⟩:=hin hb;simp at h
      ·intro k u hb;obtain⟨_,h⟩:=hin hb;simp at h
      ·intro b rs hb;obtain⟨_,h⟩:=hin hb;simp at h
      · intro b css hx
        rw[zQ6,J8]at hx;obtain⟨o,ho,hoo⟩:=hx;have:=Ql ho;simp at this;subst this;cases hoo
    · simp only[VV.cv,Nat.zero_mul]
      rw[hml];exact .sref _ _ _ _ _ _ ab aoff size cap (by simp[φn]) hcap (Qe _) (by simp) (by rw[Ks];exact ha4)
theorem wKd{β:Type}{r:β}{h:zQa}{k:Nat}{c' c:C}{ds:List (El c')}{K:List (El c)→Option β}(he:vKj h k c' ds c K=some r):∃hcc:c'=c,K (hcc▸ds)=some r∧(hc h)[k]?=some (.tail ds.length):=by
 unfold vKj at he;split at he<;>(try (simp at he;done))
 rename_i u hk;split at he<;>(try (simp at he;done))
 rename_i hcc;split at he<;>(try (simp at he;done))
 rename_i hu;refine⟨hcc,he, ?_⟩;rw[zQ6,hk];have:u=ds.length:=hu;subst this;rfl
theorem zZk.vWy{f:FuncId}{args:List CV}{h:zQa}{v:VV}{os:List OC}{r:Els (zZl os)}(hF:zQo P c (.fn f) args [] .ret [v.cv] (hc h))
  (hv:∀(φ':Phi) (St':Stab) (w':World) (u:Value),Rel w'.heap.size φ' St' (hc h) w'∨True→∀N,Rel N φ' St' (hc h) w'→VR φ' St' w' v.cv u→∀(St:Stab) (w:World),(∀r j,St r j→r<w.heap.size)→N=w.heap.size→Frm 0 Phi0 St w φ' St' w'→
   ∃φn St2,Frm 0 Phi0 St w φn St2 w'∧Rel N φn St2 (hc (zQ7 os r 0).2) w'∧VR φn St2 w' (oneV (zQ7 os r 0).1).cv u):
  zZk P c f args (oneV (zQ7 os r 0).1).cv (hc (zQ7 os r 0).2):=by
 obtain⟨hent,hC⟩:=hF;refine⟨hent,fun St w us hst hg hu=>(hC w.heap.size Phi0 St w us (Rel.xYw hst) hg hu).mono ?_⟩
 intro e w' hp;cases e with
 |outgrown=>exact hp.elim
 |panicked ch=>obtain⟨_,_,_,_,_,h3,_⟩:=hp;simp at h3
 |returned u=>
 obtain⟨φ',St',l,c1,_,h3,hvr⟩:=hp;simp at h3;subst h3;obtain⟨φn,St2,k1,k2,k3⟩:=hv φ' St' w' u (.inr trivial) _ l.rel hvr St w hst rfl (l.frm);exact⟨u,φn,St2,rfl,k1,k2,k3⟩
theorem uWk{f:FuncId}{args:List CV}{h:zQa}:∀{os:List OC} {v:VV} {r:Els (zZl os)},(os.all fun x=>x.code.pl)=true→zQo P c (.fn f) args [] .ret [v.cv] (hc h)→outT os v h some=some r→
  zZk P c f args (oneV (zQ7 os r 0).1).cv (hc (zQ7 os r 0).2)∧zW2 P c f args (oneV (zQ5 (zZl os) r)).cv:=by
 have old:∀{os:List OC} {v:VV} {r:Els (zZl os)},(os.all fun x=>x.code.pl)=true→zQo P c (.fn f) args [] .ret [v.cv] (hc h)→wQg os v h some=some r→
   zZk P c f args (oneV (zQ7 os r 0).1).cv (hc (zQ7 os r 0).2)∧zW2 P c f args (oneV (zQ5 (zZl os) r)).cv:=by
  intro os v r hp k2 k1;obtain⟨vs,X,B,e1,e2,e3,e4⟩:=vK0 hp k1;refine⟨zZk.of_out e4 k2 e1 e2 e3 (zZp _ _ _ hp) (xWf _ _ _),zW2.yY7 k2 fun N φ St w u R hu=>?_⟩
  obtain⟨us,g1,g2⟩:=e4 _ _ _ _ hu;obtain⟨_,k3,_⟩:=e1 _ _ _ _ _ R g1;rw[zXa];exact g2 _ _ _ (by rw[Qh,xYp,wWp]) k3
 intro os v r hp k2 k1;unfold outT at k1;split at k1
 ·rename_i c0 K
  split at k1
  ·rename_i c' ds k full
   split at k1<;>(try (simp at k1;done))
   rename_i hs;obtain⟨rfl,g1,g2⟩:=wKd k1;simp only[Qa]at g1;subst g1;refine⟨zZk.vWy k2 fun φ' St' w' u _ N R hvr St w hst hN fr=>?_,zW2.yY7 k2 fun N φ St w u R hu=>?_⟩
   ·exact wKc hst hN fr R hs g2 hvr
   ·have hp1:c'.pl=true:=by simpa[OC.code,C.pl]using hp
    have:=yY4 (rs:=[C.list c']) (v:=.sl c' ds (some k) full) (h:=h) (K:=some) (r:=(ds:List (El c'))) (by simp[wQf,deF,C.pl,hp1,aggS,deF0,deW])
    obtain⟨d,q1,q2⟩:=this;simp only[Qa]at q1;subst q1;exact q2 _ _ _ _ _ R hu
  ·exact old hp k2 k1
 ·rename_i c0 p K
  split at k1
  ·rename_i c' ds k full v2
   split at k1<;>(try (simp at k1;done))
   rename_i hs;simp only[Qc]at hs;obtain⟨rfl,g1,g2⟩:=wKd k1;obtain⟨d2,g3,g4,_⟩:=xW3 g1;simp only[Qa]at g3;subst g3;have hhi:=(zWq p d2 hs.2).1;refine⟨zZk.vWy k2 fun φ' St' w' u _ N R hvr St w hst hN fr=>?_,zW2.yY7 k2 fun N φ St w u R hu=>?_⟩
   ·simp only[VV.cv,VV.cvs]at hvr
    cases hvr with|tuple _ us hus=>
    cases hus with|cons _ u1 _ us a b=>
    cases b with|cons _ u2 _ us b e=>
    cases e;obtain⟨φn,St2,q1,q2,q3⟩:=wKc hst hN fr R hs.1 g2 (by simpa[VV.cv]using a)
    refine⟨φn,St2,q1, ?_, ?_⟩
    ·simpa[zQ7,OC.val0]using q2
    ·rw[zXa]
     simp only[zQ7,Qg,Q8,oneOf];refine .tuple _ _ (.cons _ _ _ _ q3 (.cons _ _ _ _ ?_ .nil));simp only[OC.val0,zQv];exact hhi _ _ _ _ _ _ _ (g4 _ _ _ _ _ R b)
   ·simp only[VV.cv,VV.cvs]at hu
    cases hu with|tuple _ us hus=>
    cases hus with|cons _ u1 _ us a b=>
    cases b with|cons _ u2 _ us b e=>
    cases e;rw[zXa];simp only[OC.code,zQ5,Qg,Q8,oneOf,zQv];refine .tuple _ _ (.cons _ _ _ _ ?_ (.cons _ _ _ _ (g4 _ _ _ _ _ R b) .nil));have hp1:c'.pl=true∧p.pl=true:=by simpa[OC.code,C.pl]using hp
    obtain⟨d,q1,q2⟩:=yY4 (rs:=[C.list c']) (v:=.sl c' ds (some k) full) (h:=h) (K:=some) (r:=(ds:List (El c'))) (by simp[wQf,deF,C.pl,hp1.1,aggS,deF0,deW])
    simp only[Qa]at q1;subst q1;have:=q2 _ _ _ _ _ R (by simpa[VV.cv]using a)
    rw[zXa]at this;simpa[zQ5,zQv,oneOf]using this
  ·exact old hp k2 k1
 ·exact old hp k2 k1
theorem ownD(ok:vc.Ok P c){n:Nat}{f:FuncId}{o:OFn}(h:∀d,o.fn d=wY6 vc n f o.args o.ores d):OwnD P c f o∧zXl P c f o.pfn:=by
 have key:∀d r,o.fn d=some r→zZk P c f ((zQ5 o.args d).map VV.cv) (oneV (zQ7 o.ores r 0).1).cv (hc (zQ7 o.ores r 0).2)∧zW2 P c f ((zQ5 o.args d).map VV.cv) (oneV (zQ5 (zZl o.ores) r)).cv:=by
  intro d r hr;rw[h d]at hr;unfold wY6 at hr;split at hr
  ·simp at hr
  rename_i hp;obtain⟨v,h',m',k1,k2,_,_⟩:=(yZ5 ok n (.fn f) _ _ _ _ _ _ hr).resolve_right (by rintro⟨_,_,_,h,_⟩;simp at h)
  exact uWk (by simpa using hp) k2 k1
 exact⟨fun d r hr=>(key d r hr).1,fun d r hr=>(key d r hr).2⟩
theorem ownR(ok:vc.Ok P c){n:Nat}{f:FuncId}{o:RFn}(h:∀d,o.fn d=wZ2 vc n f o.args o.objs o.res d):OwnR P c f o:=by
 intro d r hr;rw[h d]at hr;unfold wZ2 at hr;obtain⟨v,h',m',k1,k2,_,_⟩:=(yZ5 ok n (.fn f) _ _ _ _ _ _ hr).resolve_right (by rintro⟨_,_,_,h,_⟩;simp at h)
 exact uWl k2 k1
theorem vWt{elt:C}{v:VV}{h:zQa}{l:List (El elt)}(k1:outM elt v h=some l):∃b off cap ex csk,v.cv=.sref elt.cells b off l.length cap ex∧(hc h)[b]?=some (.cells csk)∧(csk.drop off).take (l.length*elt.cells)=vecC elt l∧(vecC elt l).length=l.length*elt.cells:=by
 unfold outM at k1;split at k1<;>(try (simp at k1;done))
 rename_i b off len cap ex c0;split at k1<;>(try (simp at k1;done))
 rename_i c' zs hb;split at k1<;>(try (simp at k1;done))
 rename_i hcc;obtain⟨rfl,rfl⟩:=hcc;split at k1<;>(try (simp at k1;done))
 rename_i hle;replace hle:off+len≤zs.length:=hle;simp only[Qa]at k1;have hl:l.length=len:=by rw[←k1];show((zs.drop off).take len).length=len;rw[Jf,J6];omega
 refine⟨b,off*c0.cells,cap,ex,vecC c0 zs,by rw[hl];rfl,zWr hb, ?_,by rw[zQp]⟩
 rw[zWh,zWp,hl,←k1]
theorem wKw{elt qc:C}{v:VV}{h:zQa}{l:List (List (El qc))×List (El elt)}(k1:vK1 elt qc v h=some l):outM elt v h=some l.2∧(hc h)[2]?=some (.rows (l.1.map (vecC qc))):=by
 unfold vK1 at k1;split at k1<;>(try (simp at k1;done))
 rename_i c' zs hq;split at k1<;>(try (simp at k1;done))
 rename_i hcc;subst hcc;split at k1<;>(try (simp at k1;done))
 rename_i b off len cap ex c0;split at k1<;>(try (simp at k1;done))
 rename_i c2 ys hb;split at k1<;>(try (simp at k1;done))
 rename_i hc2;obtain⟨rfl,rfl⟩:=hc2;split at k1<;>(try (simp at k1;done))
 rename_i hle;simp only[Qa]at k1;subst k1;refine⟨?_,zJn hq⟩;unfold outM;simp[hb,hle]
theorem mvQ{vc0:VCfg}(ok:vc.Ok P c)(ok0:vc0.Ok P c){n:Nat}{f:FuncId}{o:QFn}(h:∀k qs ds d vs,o.fn k qs ds d vs=wWu vc n f o.elt o.qc o.args k qs ds d vs)(h0:∀qs d vs,o.fn0 qs d vs=xZ9 vc0 n f o.elt o.qc o.args qs d vs):MvQ P c f o:=by
 intro qs ds d vs l hall hz;refine⟨fun k hk=>?_,fun hn=>?_⟩
 ·have hr:=hall k hk
  rw[h]at hr;unfold wWu at hr;obtain⟨v,h',m',k1,k2,_,_⟩:=(yZ5 ok n (.fn f) _ _ _ _ _ _ hr).resolve_right (by rintro⟨_,_,_,h,_⟩;simp at h)
  obtain⟨k3,k4⟩:=wKw k1;obtain⟨b,off,cap,ex,csk,q1,q2,q3,q4⟩:=vWt k3;refine⟨b,off,cap,ex,hc h',csk, ?_,q2,q3,q4,k4⟩;rw[←q1];simpa[VV.cv,hc,VObj.ho]using k2
 ·have hr:=hz hn
  rw[h0]at hr;unfold xZ9 at hr;obtain⟨v,h',m',k1,k2,_,_⟩:=(yZ5 ok0 n (.fn f) _ _ _ _ _ _ hr).resolve_right (by rintro⟨_,_,_,h,_⟩;simp at h)
  obtain⟨k3,k4⟩:=wKw k1;obtain⟨b,off,cap,ex,csk,q1,q2,q3,q4⟩:=vWt k3;refine⟨b,off,cap,ex,hc h',csk, ?_,q2,q3,q4,k4⟩;rw[←q1];simpa[VV.cv,hc,VObj.ho]using k2
end
end Go.Eng
/- A law's arguments, as data. -/
namespace Go.Eng
open Go.ChangeShapes Go.WideShapes Go.ChangeAt Go.RowKit
set_option linter.unusedVariables false
def Fit:(c:C)→El c→Prop
 | .bool,_=>True
 | .int k,n=>k.min≤n∧n≤k.max
 | .str,s=>s.length≤maxLen
 | .list c,ds=>ds.length≤maxLen∧∀d∈ds,Fit c d
 | .unit,_=>True
 | .pair a b,d=>Fit a d.1∧Fit b d.2
 | .arr n c,ds=>ds.length=n∧∀d∈ds,Fit c d
 | .mix _ _,_=>True
def Fits:(cs:List C)→Els cs→Prop
 |[],_=>True
 |[c],d=>Fit c d
 |c::e::cs,d=>Fit c d.1∧Fits (e::cs) d.2
mutual
def layC(ty:Ty):Nat→TypeId→Option C
 |0,_=>none
 | n+1,t=>match ty t with
  |none=>none
  | some i=>match i.desc with
   | .bool=>if i.size=1 then some .bool else none
   | .int k=>if i.size=1 then some (.int k)else none
   | .string=>if i.size=1 then some .str else none
   | .slice e=>match layC ty n e,ty e with
    |some c,some j=>if i.size=1∧j.size=c.cells∧0<c.cells then some (.list c)else none
    |_,_=>none
   | .array len e=>match layC ty n e,ty e with
    |some c,some j=>if j.size=c.cells∧i.size=len*c.cells then some (.arr len c)else none
    |_,_=>none
   | .struct fs=>match xXx ty n fs.toList 0 with
    |some c=>if i.size=c.cells then some c else none
    |none=>none
   |_=>none
termination_by structural n=>n
def xXx(ty:Ty):Nat→List Field→Nat→Option C
 |0,_,_=>none
 | n+1,fs,off=>match fs with
  |[]=>some .unit
  | f::fs=>match layC ty n f.type,ty f.type with
   |some a,some j=>if f.offset=off∧j.size=a.cells then(match xXx ty n fs (off+a.cells)with
    |some b=>some (.pair a b)
    |none=>none)else none
   |_,_=>none
termination_by structural n=>n
end
def yQr(w:World):Stab:=fun r j=>r<w.heap.size
section
variable {H:Type} {enc:TypeId×Value→H} {P:Program} {w:World} {base:Nat} {sp:Nat→Bool} {held:Bool} {ty:Ty}
theorem yQ8{α:Type}(dflt:α)(Q:Nat→α→Prop):∀(n:Nat),(∀i,i<n→∃d,Q i d)→∃ds:List α,ds.length=n∧∀(i:Nat) (d:α),ds[i]? =some d→Q i d
 |0,_=>⟨[],rfl,by simp⟩
 | n+1,h=>by
  obtain⟨ds,h1,h2⟩:=yQ8 dflt Q n fun i hi=>h i (by omega)
  obtain⟨d,hd⟩:=h n (by omega)
  refine⟨ds++[d],by simp[h1],fun i x hx=>?_⟩
  by_cases hi:i<ds.length
  ·rw[Qb hi]at hx;exact h2 i x hx
  ·rw[Qj (by omega)]at hx
   have:i-ds.length=0:=by
    have:=(List.getElem?_eq_some_iff.1 hx).1;simp at this;omega
   rw[this]at hx;simp at hx;subst hx;have:i=n:=by omega
   subst this;exact hd
theorem xYa{a:Addr}{v:Value}(h:w.cell? a=some v):a.block<w.heap.size∧a.spot=none:=by
 unfold World.cell? at h;split at h
 ·rename_i c _ _ hb
  refine⟨(Array.getElem?_eq_some_iff.1 hb).1, ?_⟩;split at h
  ·simp at h
  ·rename_i hs;simpa using hs
 ·simp at h
theorem zK7(hty:ty.Ok P){t:TypeId}{i:TI}(hi:ty t=some i):P.cellsOf t=i.size:=by
 obtain⟨inf,z,h1,h2,_⟩:=(hty t i hi).info;simp[Program.cellsOf,h1,h2]
def xXh(w:World)(c:C)(cs:List Value):Prop:=∃d:El c,VRL Phi0 (yQr w) w (valC c d).flat cs∧Fit c d
theorem open_slice{c:C}(hpos:0<c.cells){a:Addr}{len cap:Nat}(hl:len≤cap)(hm:cap≤maxLen)
  (each:∀i,i<len→∃cs',w.cells? base (a.add (i*c.cells)) c.cells=some cs'∧xXh w c cs'):xXh w (.list c) [.slice (some a) len cap]:=by
 have each':∀i,i<len→∃p:El c×List Value,VRL Phi0 (yQr w) w (valC c p.1).flat p.2∧Fit c p.1∧w.cells? base (a.add (i*c.cells)) c.cells=some p.2:=fun i hi=>
  let⟨cs',h1,d,h2,h3⟩:=each i hi
  ⟨(d,cs'),h2,h3,h1⟩
 obtain⟨ps,hpl,hps⟩:=yQ8 (dfl c,([]:List Value)) (fun i p=>VRL Phi0 (yQr w) w (valC c p.1).flat p.2∧Fit c p.1∧w.cells? base (a.add (i*c.cells)) c.cells=some p.2) len each'
 have hlens:∀p∈ps,p.2.length=c.cells:=fun p hp=>by
  obtain⟨j,hj⟩:=Ku hp;rw[←(hps j p hj).1.length,zQt]
 have hvr:VRL Phi0 (yQr w) w (vecC c (ps.map (·.1))) (ps.flatMap (·.2)):=by
  have:∀l:List (El c×List Value),(∀p∈l,VRL Phi0 (yQr w) w (valC c p.1).flat p.2)→VRL Phi0 (yQr w) w (vecC c (l.map (·.1))) (l.flatMap (·.2)):=by
   intro l;induction l with
   |nil=>intro _;exact .nil
   |cons p l ih=>
    intro h;simp only[Qg,vecC,Qo];exact(h p (by simp)).append (ih fun q hq=>h q (by simp[hq]))
  refine this ps fun p hp=>?_
  obtain⟨j,hj⟩:=Ku hp;exact(hps j p hj).1
 have hget:∀(l:List (El c×List Value)) (j:Nat) (v:Value),(∀p∈l,p.2.length=c.cells)→(l.flatMap (·.2))[j]?=some v→∃i k p,l[i]?=some p∧p.2[k]?=some v∧j=i*c.cells+k∧k<c.cells:=by
  intro l;induction l with
  |nil=>intro j v _ h;simp at h
  | cons p l ih=>
   intro j v hl h;rw[Qo]at h;have hpl:=hl p (by simp)
   by_cases hj:j<p.2.length
   ·rw[Qb hj]at h
    exact⟨0,j,p,rfl,h,by simp,by omega⟩
   ·rw[Qj (by omega)]at h
    obtain⟨i,k,q,h1,h2,h3,h4⟩:=ih _ v (fun q hq=>hl q (by simp[hq])) h
    exact⟨i+1,k,q,by simpa using h1,h2,by rw[Kg];omega,h4⟩
 have hcell:∀i k p v,ps[i]?=some p→p.2[k]?=some v→k<c.cells→w.cell? ((a.add (i*c.cells)).add k)=some v:=by
  intro i k p v h1 h2 hk;have h3:=(World.cells?_some (hps i p h1).2.2).2.2 k hk;rw[h3];exact h2
 refine⟨ps.map (·.1), ?_,⟨by simp;omega, ?_⟩⟩
 ·have hfm:(((ps.map (·.1)).map (valC c)).flatMap CV.flat)=vecC c (ps.map (·.1)):=by rw[Q6];rfl
  have:=VR.slice (φ:=Phi0) (St:=yQr w) (w:=w) c.cells ((ps.map (·.1)).map (valC c)) none false (some a) cap (ps.flatMap (·.2)) ?_ (by rw[hfm];exact hvr) ?_ ?_ (by simp) trivial
  ·refine .cons _ _ _ _ ?_ .nil
   have h2:((ps.map (·.1)).map (valC c)).length=len:=by simp[hpl]
   rw[h2]at this;simpa[valC]using this
  ·cases hps0:ps with
   |nil=>left;simp
   | cons p0 ps0=>
    right;have hp0:ps[0]?=some p0:=by rw[hps0];rfl
    have hl0:=hlens p0 (by rw[hps0];simp)
    have hv0:∃v,p0.2[0]?=some v:=⟨p0.2[0]'(by omega),Qm (by omega)⟩
    obtain⟨v0,hv0⟩:=hv0;have hsp:a.spot=none:=by
     have:=(xYa (hcell 0 0 p0 v0 hp0 hv0 hpos)).2;simpa[Addr.add]using this
    refine⟨a,rfl,hsp,fun j v hv=>?_⟩
    rw[←hps0]at hv;obtain⟨i,k,p,g1,g2,rfl,g4⟩:=hget ps j v hlens hv;have h3:=hcell i k p v g1 g2 g4;have he:(a.add (i*c.cells)).add k=⟨a.block,a.off+(i*c.cells+k),none⟩:=by
     cases a with|mk b o sp=>
     simp only at hsp;subst hsp;simp only[Addr.add];by_cases h1:i*c.cells=0<;>by_cases h2:k=0<;>simp[h1,h2,Jp]
    rw[he]at h3;exact⟨(xYa h3).1,h3⟩
  ·intro y hy
   obtain⟨d,_,rfl⟩:=Ji.1 hy;exact zQt c d
  ·simp[hpl];exact hl
 ·intro d hd
  obtain⟨p,hpp,rfl⟩:=Ji.1 hd;obtain⟨j,hj⟩:=Ku hpp;exact(hps j p hj).2.1
theorem open_arr{c:C}{n:Nat}{cs:List Value}(hlen:cs.length=n*c.cells)(each:∀i,i<n→xXh w c ((cs.drop (i*c.cells)).take c.cells)):xXh w (.arr n c) cs:=by
 obtain⟨ds,h1,h2⟩:=yQ8 (dfl c) (fun i d=>VRL Phi0 (yQr w) w (valC c d).flat ((cs.drop (i*c.cells)).take c.cells)∧Fit c d) n each
 refine⟨ds, ?_,h1,fun d hd=>?_⟩
 ·simp only[valC,flat_agg]
  have key:∀(m:Nat),m≤n→VRL Phi0 (yQr w) w ((List.range m).flatMap fun i=>(valC c (ds.getD i (dfl c))).flat) (cs.take (m*c.cells)):=by
   intro m;induction m with
   |zero=>intro _;simpa using VRL.nil
   | succ m ih=>
    intro hm;rw[List.range_succ,Kb,Kg,List.take_add];have hd:ds[m]?=some (ds.getD m (dfl c)):=by
     have:m<ds.length:=by omega
     simp[List.getD,this]
    refine(ih (by omega)).append ?_
    simpa using (h2 m _ hd).1
  have:=key n (Qe _)
  rwa [←hlen,Jj]at this
 ·obtain⟨j,hj⟩:=Ku hd
  exact(h2 j d hj).2
theorem xWg(hty:ty.Ok P){cs:List Value}:∀(n:Nat) (fs:List Field) (off:Nat) (c:C),xXx ty n fs off=some c→off+c.cells≤cs.length→
  (∀f∈fs,∀m cf,layC ty m f.type=some cf→m<n→xXh w cf ((cs.drop f.offset).take (P.cellsOf f.type)))→xXh w c ((cs.drop off).take c.cells)
 |0,fs,off,c,h,_,_=>by simp[xXx]at h
 |n+1,[],off,c,h,_,_=>by
  simp[xXx]at h;subst h;exact⟨(),by simpa[valC,CV.flat,C.cells]using VRL.nil,trivial⟩
 |n+1,f::fs,off,c,h,hl,each=>by
  simp only[xXx]at h;split at h<;>(try (simp at h;done))
  rename_i a j ha hj;split at h<;>(try (simp at h;done))
  rename_i hcond;obtain⟨hoff,hsz⟩:=hcond;split at h<;>(try (simp at h;done))
  rename_i b hb;simp at h;subst h;simp only[C.cells]at hl⊢;have h1:=each f (by simp) n a ha (by omega)
  rw[zK7 hty hj,hsz,hoff]at h1;have h2:=xWg hty n fs (off+a.cells) b hb (by omega) fun f' hf m cf hm hlt=>each f' (by simp[hf]) m cf hm (by omega)
  obtain⟨d1,g1,g2⟩:=h1;obtain⟨d2,k1,k2⟩:=h2;refine⟨(d1,d2), ?_,g2,k2⟩;simp only[valC,flat_agg];rw[List.take_add];refine g1.append ?_;rw[List.drop_drop];exact k1
theorem vK3(hty:ty.Ok P):∀(m:Nat) (c:C) (n:Nat) (t:TypeId) (cs:List Value) (x:DataW H×List MemPlace),layC ty m t=some c→DataW.trod enc P w base sp held n t cs=some x→xXh w c cs∧P.cellsOf t=c.cells:=by
 intro m;induction m using Nat.strongRecOn with
 |_ m ih=>
 intro c n t cs x hc hx;cases m with
 |zero=>simp[layC]at hc
 |succ m=>
 simp only[layC]at hc;split at hc<;>(try (simp at hc;done))
 rename_i i hi;have f:=hty t i hi;have hu:=f.und;have hcells:=zK7 hty hi;split at hc<;>rename_i hd<;>(try (simp at hc;done))<;>rw[hd]at hu
 ·split at hc<;>simp at hc
  rename_i hs;subst hc;obtain⟨b,rfl,_⟩:=DataW.trod_bool hu hx;exact⟨⟨b, .cons _ _ _ _ (.bool _) .nil,trivial⟩,by rw[hcells,hs];rfl⟩
 ·split at hc<;>simp at hc
  rename_i hs;subst hc;obtain⟨b,rfl,_,hw⟩:=DataW.trod_int hu hx;simp[Lit.wf]at hw;exact⟨⟨b, .cons _ _ _ _ (.int _ _) .nil,hw⟩,by rw[hcells,hs];rfl⟩
 ·split at hc<;>simp at hc
  rename_i hs;subst hc;obtain⟨s,rfl,_,hw⟩:=DataW.trod_string hu hx;exact⟨⟨s.data.toList, .cons _ _ _ _ (.str _ _ rfl) .nil,by simpa[Fit]using hw⟩,by rw[hcells,hs];rfl⟩
 ·split at hc<;>(try (simp at hc;done))
  rename_i c' j hc' hj;split at hc<;>simp at hc;rename_i hs;obtain⟨hs1,hs2,hs3⟩:=hs;subst hc;refine⟨?_,by rw[hcells,hs1];rfl⟩
  rcases DataW.trod_slice hu hx with⟨rfl,_⟩|⟨a,len,cap,elems,rest,n',_,rfl,_,hb,hl,hm,hlen,hel,_,_⟩
  ·exact⟨[], .cons _ _ _ _ (.slice c'.cells [] none false none 0 [] (.inl rfl) .nil (by simp) (Qe _) (by simp) trivial) .nil,Jd _,by simp⟩
  ·refine open_slice (base:=base) hs3 hl hm fun k hk=> ?_
   have hk':k<elems.length:=by omega
   have e1:=hel k hk;rw[Qm hk',Kw,zK7 hty hj,hs2]at e1;obtain⟨cs',hcs,hy⟩:=e1;exact⟨cs',hcs,(ih m (by omega) c' n' _ cs' _ hc' hy).1⟩
 ·split at hc<;>(try (simp at hc;done))
  rename_i c' j hc' hj;split at hc<;>simp at hc;rename_i hs;obtain⟨hs1,hs2⟩:=hs;subst hc;obtain⟨xs,n',_,_,hl,hxl,hel⟩:=DataW.trod_array hu hx;refine⟨open_arr (by rw[hl,hcells,hs2]) fun k hk=>?_,by rw[hcells,hs2];rfl⟩
  have hk':k<xs.length:=by omega
  have e1:=hel k hk;rw[Qm hk',zK7 hty hj,hs1]at e1;exact(ih m (by omega) c' n' _ _ _ hc' e1).1
 ·split at hc<;>(try (simp at hc;done))
  rename_i c' hfs;split at hc<;>simp at hc;rename_i hs;subst hc;obtain⟨xs,n',_,_,hl,hxl,hel⟩:=DataW.trod_struct hu hx;refine⟨?_,by rw[hcells,hs]⟩
  have hcl:cs.length=c'.cells:=by rw[hl,hcells,hs]
  have:=xWg (w:=w) hty (cs:=cs) m _ 0 c' hfs (by omega) fun ff hff m' cf hm hlt=>by
   obtain⟨k,hk⟩:=Ku hff;have hk':k<xs.length:=by have:=(List.getElem?_eq_some_iff.1 hk).1;simp at this;omega
   have e1:=hel k ff (by simpa using hk)
   rw[Qm hk']at e1;exact(ih m' (by omega) cf n' _ _ _ hm e1).1
  simpa[hcl.symm▸Jj]using this
def wYj(P:Program)(t:TypeId):Bool:=match P.underlying t with
 |some (.struct _)|some (.array _ _)=>true
 |_=>false
theorem yZh(hl:laidOutB P=true){W W':World}(hb:Below W.heap.size W W'){sp':Nat→Bool}:∀{ts:List TypeId} {vs:List Value} {ds:List (DataW H)} {ps:List MemPlace},
  (ts.all fun t=>P.readableRec t&&decide (t<P.types.size))=true→DataW.TrodAll enc P W 0 (fun _=>true) true ts vs ds ps→(∀x∈ps,x.block<W.heap.size)→(∀x∈ps,sp' x.block=true)→DataW.TrodAll enc P W' 0 sp' true ts vs ds ps
 |[],vs,ds,ps,_,h,_,_=>by
  obtain⟨rfl,rfl,rfl⟩:=trodAll_nil h;exact trodAll_mk0
 | t::ts,vs,ds,ps,ht,h,hlt,hsp=>by
  simp only[J7,Qc,decide_eq_true_eq]at ht;obtain⟨v,vs',d,ds',p,q,rfl,rfl,rfl,hd,hr⟩:=trodAll_cons h;exact⟨p,q,WideElems.Trod_stays hl ht.1.1 ht.1.2 hd (fun x hx=>hb.same (hlt x (by simp[hx]))) (fun x hx=>hsp x (by simp[hx])),
   yZh hl hb ht.2 hr (fun x hx=>hlt x (by simp[hx])) (fun x hx=>hsp x (by simp[hx])),rfl⟩
end
end Go.Eng
/- The law's contract where what came in is of a bounded bulk. -/
namespace Go.Eng
open Go.ChangeShapes Go.WideShapes Go.ChangeAt Go.RowKit
set_option linter.unusedVariables false
mutual
def zY3{H:Type}:DataW H→Nat
 | .lit (.string bytes)=>bytes.length+1
 | .lit _=>1
 | .nil=>1
 | .ptr d=>zY3 d+1
 | .slice elems spare=>zK8 elems+zK8 spare+1
 | .agg parts=>zK8 parts+1
 | .iface _ d=>zY3 d+1
 | .map entries=>yWb entries+1
 | .held _=>1
def zK8{H:Type}:List (DataW H)→Nat
 |[]=>0
 |d::r=>zY3 d+zK8 r
def yWb{H:Type}:List (Lit×DataW H)→Nat
 |[]=>0
 |x::r=>xXb x+yWb r
def xXb{H:Type}:Lit×DataW H→Nat
 |(.string bytes,d)=>bytes.length+zY3 d+1
 |(_,d)=>zY3 d+1
end
def siz:(c:C)→El c→Nat
 | .bool,_=>1
 | .int _,_=>1
 | .str,s=>s.length+1
 | .list c,ds=>(ds.map (siz c)).sum+1
 | .unit,_=>0
 | .pair a b,d=>siz a d.1+siz b d.2
 | .arr _ _,_=>0
 | .mix _ _,_=>0
def sizs:(cs:List C)→Els cs→Nat
 |[],_=>0
 |[c],d=>siz c d
 |c::e::cs,d=>siz c d.1+sizs (e::cs) d.2
section
variable {H:Type} {enc:TypeId×Value→H} {P:Program} {w:World} {base:Nat} {sp:Nat→Bool} {held:Bool} {ty:Ty}
def yJ7(w:World)(c:C)(cs:List Value)(n:Nat):Prop:=∃d:El c,VRL Phi0 (yQr w) w (valC c d).flat cs∧Fit c d∧siz c d≤n
theorem xYu(f:Nat→Nat):∀(l:List Nat),(∀i (n:Nat),l[i]?=some n→n≤f i)→l.sum≤((List.range l.length).map f).sum:=by
 intro l;induction l generalizing f with
 |nil=>intro _;simp
 |cons x l ih=>
  intro h;rw[Jc,List.range_succ_eq_map,Qg,J5];have h0:=h 0 x rfl;have:=ih (f∘Nat.succ) fun i n hi=>h (i+1) n (by simpa using hi)
  simp only[List.sum_cons];omega
theorem wXp{c:C}(hpos:0<c.cells){a:Addr}{len cap:Nat}{N:Nat→Nat}(hl:len≤cap)(hm:cap≤maxLen)
  (each:∀i,i<len→∃cs',w.cells? base (a.add (i*c.cells)) c.cells=some cs'∧yJ7 w c cs' (N i)):yJ7 w (.list c) [.slice (some a) len cap] (((List.range len).map N).sum+1):=by
 have each':∀i,i<len→∃p:El c×List Value,VRL Phi0 (yQr w) w (valC c p.1).flat p.2∧(Fit c p.1∧siz c p.1≤N i)∧w.cells? base (a.add (i*c.cells)) c.cells=some p.2:=fun i hi=>
  let⟨cs',h1,d,h2,h3,h4⟩:=each i hi
  ⟨(d,cs'),h2,⟨h3,h4⟩,h1⟩
 obtain⟨ps,hpl,hps⟩:=yQ8 (dfl c,([]:List Value)) (fun i p=>VRL Phi0 (yQr w) w (valC c p.1).flat p.2∧(Fit c p.1∧siz c p.1≤N i)∧w.cells? base (a.add (i*c.cells)) c.cells=some p.2) len each'
 have hlens:∀p∈ps,p.2.length=c.cells:=fun p hp=>by
  obtain⟨j,hj⟩:=Ku hp;rw[←(hps j p hj).1.length,zQt]
 have hvr:VRL Phi0 (yQr w) w (vecC c (ps.map (·.1))) (ps.flatMap (·.2)):=by
  have:∀l:List (El c×List Value),(∀p∈l,VRL Phi0 (yQr w) w (valC c p.1).flat p.2)→VRL Phi0 (yQr w) w (vecC c (l.map (·.1))) (l.flatMap (·.2)):=by
   intro l;induction l with
   |nil=>intro _;exact .nil
   |cons p l ih=>
    intro h;simp only[Qg,vecC,Qo];exact(h p (by simp)).append (ih fun q hq=>h q (by simp[hq]))
  refine this ps fun p hp=>?_
  obtain⟨j,hj⟩:=Ku hp;exact(hps j p hj).1
 have hget:∀(l:List (El c×List Value)) (j:Nat) (v:Value),(∀p∈l,p.2.length=c.cells)→(l.flatMap (·.2))[j]?=some v→∃i k p,l[i]?=some p∧p.2[k]?=some v∧j=i*c.cells+k∧k<c.cells:=by
  intro l;induction l with
  |nil=>intro j v _ h;simp at h
  | cons p l ih=>
   intro j v hl h;rw[Qo]at h;have hpl:=hl p (by simp)
   by_cases hj:j<p.2.length
   ·rw[Qb hj]at h
    exact⟨0,j,p,rfl,h,by simp,by omega⟩
   ·rw[Qj (by omega)]at h
    obtain⟨i,k,q,h1,h2,h3,h4⟩:=ih _ v (fun q hq=>hl q (by simp[hq])) h
    exact⟨i+1,k,q,by simpa using h1,h2,by rw[Kg];omega,h4⟩
 have hcell:∀i k p v,ps[i]?=some p→p.2[k]?=some v→k<c.cells→w.cell? ((a.add (i*c.cells)).add k)=some v:=by
  intro i k p v h1 h2 hk;have h3:=(World.cells?_some (hps i p h1).2.2).2.2 k hk;rw[h3];exact h2
 refine⟨ps.map (·.1), ?_,⟨by simp;omega, ?_⟩, ?_⟩
 ·have hfm:(((ps.map (·.1)).map (valC c)).flatMap CV.flat)=vecC c (ps.map (·.1)):=by rw[Q6];rfl
  have:=VR.slice (φ:=Phi0) (St:=yQr w) (w:=w) c.cells ((ps.map (·.1)).map (valC c)) none false (some a) cap (ps.flatMap (·.2)) ?_ (by rw[hfm];exact hvr) ?_ ?_ (by simp) trivial
  ·refine .cons _ _ _ _ ?_ .nil
   have h2:((ps.map (·.1)).map (valC c)).length=len:=by simp[hpl]
   rw[h2]at this;simpa[valC]using this
  ·cases hps0:ps with
   |nil=>left;simp
   | cons p0 ps0=>
    right;have hp0:ps[0]?=some p0:=by rw[hps0];rfl
    have hl0:=hlens p0 (by rw[hps0];simp)
    have hv0:∃v,p0.2[0]?=some v:=⟨p0.2[0]'(by omega),Qm (by omega)⟩
    obtain⟨v0,hv0⟩:=hv0;have hsp:a.spot=none:=by
     have:=(xYa (hcell 0 0 p0 v0 hp0 hv0 hpos)).2;simpa[Addr.add]using this
    refine⟨a,rfl,hsp,fun j v hv=>?_⟩
    rw[←hps0]at hv;obtain⟨i,k,p,g1,g2,rfl,g4⟩:=hget ps j v hlens hv;have h3:=hcell i k p v g1 g2 g4;have he:(a.add (i*c.cells)).add k=⟨a.block,a.off+(i*c.cells+k),none⟩:=by
     cases a with|mk b o sp=>
     simp only at hsp;subst hsp;simp only[Addr.add];by_cases h1:i*c.cells=0<;>by_cases h2:k=0<;>simp[h1,h2,Jp]
    rw[he]at h3;exact⟨(xYa h3).1,h3⟩
  ·intro y hy
   obtain⟨d,_,rfl⟩:=Ji.1 hy;exact zQt c d
  ·simp[hpl];exact hl
 ·intro d hd
  obtain⟨p,hpp,rfl⟩:=Ji.1 hd;obtain⟨j,hj⟩:=Ku hpp;exact(hps j p hj).2.1.1
 ·simp only[siz]
  have:=xYu N ((ps.map (·.1)).map (siz c)) fun i n hi=>by
   rw[J5,Qt]at hi;cases hp:ps[i]? with
   |none=>rw[hp]at hi;simp at hi
   |some p=>
    rw[hp]at hi;simp only[Ju,Qa,Function.comp]at hi;rw[←hi];exact(hps i p hp).2.1.2
  simp only[Qh,hpl]at this;omega
theorem yYh(hty:ty.Ok P){cs:List Value}{N:Nat→Nat}:∀(n:Nat) (fs:List Field) (off j:Nat) (c:C),xXx ty n fs off=some c→off+c.cells≤cs.length→
  (∀k f,fs[k]?=some f→∀m cf,layC ty m f.type=some cf→m<n→yJ7 w cf ((cs.drop f.offset).take (P.cellsOf f.type)) (N (j+k)))→yJ7 w c ((cs.drop off).take c.cells) (((List.range fs.length).map fun k=>N (j+k)).sum)
 |0,fs,off,j,c,h,_,_=>by simp[xXx]at h
 |n+1,[],off,j,c,h,_,_=>by
  simp[xXx]at h;subst h;exact⟨(),by simpa[valC,CV.flat,C.cells]using VRL.nil,trivial,by simp[siz]⟩
 | n+1,f::fs,off,j,c,h,hl,each=>by
  simp only[xXx]at h;split at h<;>(try (simp at h;done))
  rename_i a jt ha hj;split at h<;>(try (simp at h;done))
  rename_i hcond;obtain⟨hoff,hsz⟩:=hcond;split at h<;>(try (simp at h;done))
  rename_i b hb;simp at h;subst h;simp only[C.cells]at hl⊢;have h1:=each 0 f rfl n a ha (by omega)
  rw[zK7 hty hj,hsz,hoff]at h1;have h2:=yYh (cs:=cs) (N:=N) hty n fs (off+a.cells) (j+1) b hb (by omega) fun k f' hf m cf hm hlt=>by
   have:=each (k+1) f' (by simpa using hf) m cf hm (by omega)
   rw[show j+1+k=j+(k+1) by omega];exact this
  obtain⟨d1,g1,g2,g3⟩:=h1;obtain⟨d2,k1,k2,k3⟩:=h2;refine⟨(d1,d2), ?_,⟨g2,k2⟩, ?_⟩
  ·simp only[valC,flat_agg]
   rw[List.take_add];refine g1.append ?_;rw[List.drop_drop];exact k1
  ·simp only[siz,Jc]
   rw[List.range_succ_eq_map,Qg,J5,List.sum_cons];have e:(List.range fs.length).map ((fun k=>N (j+k))∘Nat.succ)=(List.range fs.length).map fun k=>N (j+1+k):=by
    apply J4;intro k _;show N (j+(k+1))=N (j+1+k);rw[show j+(k+1)=j+1+k by omega]
   rw[e];omega
theorem xZ2(l:List (DataW H×List MemPlace)):((List.range l.length).map fun i=>((l[i]?).map fun x=>zY3 x.1).getD 0).sum=zK8 (l.map (·.1)):=by
 induction l with
 |nil=>rfl
 |cons x l ih=>
  rw[Jc,List.range_succ_eq_map,Qg,J5,List.sum_cons,Qg];simp only[zK8,K8,Ju,Wn];rw[←ih];congr 1
theorem vWv(hty:ty.Ok P):∀(m:Nat) (c:C) (n:Nat) (t:TypeId) (cs:List Value) (x:DataW H×List MemPlace),layC ty m t=some c→DataW.trod enc P w base sp held n t cs=some x→yJ7 w c cs (zY3 x.1)∧P.cellsOf t=c.cells:=by
 intro m;induction m using Nat.strongRecOn with
 |_ m ih=>
 intro c n t cs x hc hx;cases m with
 |zero=>simp[layC]at hc
 |succ m=>
 have hc0:=hc;simp only[layC]at hc;split at hc<;>(try (simp at hc;done))
 rename_i i hi;have f:=hty t i hi;have hu:=f.und;have hcells:=zK7 hty hi;split at hc<;>rename_i hd<;>(try (simp at hc;done))<;>rw[hd]at hu
 ·split at hc<;>simp at hc
  rename_i hs;subst hc;obtain⟨b,rfl,rfl⟩:=DataW.trod_bool hu hx;exact⟨⟨b, .cons _ _ _ _ (.bool _) .nil,trivial,by simp[siz,zY3]⟩,by rw[hcells,hs];rfl⟩
 ·split at hc<;>simp at hc
  rename_i hs;subst hc;obtain⟨b,rfl,rfl,hw⟩:=DataW.trod_int hu hx;simp[Lit.wf]at hw;exact⟨⟨b, .cons _ _ _ _ (.int _ _) .nil,hw,by simp[siz,zY3]⟩,by rw[hcells,hs];rfl⟩
 ·split at hc<;>simp at hc
  rename_i hs;subst hc;obtain⟨s,rfl,rfl,hw⟩:=DataW.trod_string hu hx;exact⟨⟨s.data.toList, .cons _ _ _ _ (.str _ _ rfl) .nil,by simpa[Fit]using hw,by simp[siz,zY3]⟩,by rw[hcells,hs];rfl⟩
 ·split at hc<;>(try (simp at hc;done))
  rename_i c' j hc' hj;split at hc<;>simp at hc;rename_i hs;obtain⟨hs1,hs2,hs3⟩:=hs;subst hc;refine⟨?_,by rw[hcells,hs1];rfl⟩
  rcases DataW.trod_slice hu hx with⟨rfl,rfl⟩|⟨a,len,cap,elems,rest,n',_,rfl,rfl,hb,hl,hm,hlen,hel,_,_⟩
  ·exact⟨[], .cons _ _ _ _ (.slice c'.cells [] none false none 0 [] (.inl rfl) .nil (by simp) (Qe _) (by simp) trivial) .nil,⟨Jd _,by simp⟩,by simp[siz,zY3]⟩
  ·have:=wXp (base:=base) (N:=fun i=>((elems[i]?).map fun x=>zY3 x.1).getD 0) hs3 hl hm fun k hk=>by
    have hk':k<elems.length:=by omega
    have e1:=hel k hk;rw[Qm hk',Kw,zK7 hty hj,hs2]at e1;obtain⟨cs',hcs,hy⟩:=e1;refine⟨cs',hcs, ?_⟩;have:=(ih m (by omega) c' n' _ cs' _ hc' hy).1
    simpa[Qm hk']using this
   rw[←hlen,xZ2]at this;obtain⟨d,g1,g2,g3⟩:=this;refine⟨d,by rw[hlen]at g1;exact g1,g2, ?_⟩
   simp only[zY3];omega
 ·obtain⟨⟨d,h1,h2⟩,h3⟩:=vK3 hty (m+1) c n t cs x hc0 hx
  split at hc<;>(try (simp at hc;done))
  rename_i c' j hc' hj;split at hc<;>simp at hc;subst hc;exact⟨⟨d,h1,h2,Jd _⟩,h3⟩
 ·split at hc<;>(try (simp at hc;done))
  rename_i c' hfs;split at hc<;>simp at hc;rename_i hs;subst hc;obtain⟨xs,n',_,rfl,hl,hxl,hel⟩:=DataW.trod_struct hu hx;refine⟨?_,by rw[hcells,hs]⟩
  have hcl:cs.length=c'.cells:=by rw[hl,hcells,hs]
  have:=yYh (w:=w) hty (cs:=cs) (N:=fun i=>((xs[i]?).map fun x=>zY3 x.1).getD 0) m _ 0 0 c' hfs (by omega) fun k ff hk m' cf hm hlt=>by
   have hk':k<xs.length:=by have:=(List.getElem?_eq_some_iff.1 hk).1;simp at this;omega
   have e1:=hel k ff (by simpa using hk)
   rw[Qm hk']at e1;have:=(ih m' (by omega) cf n' _ _ _ hm e1).1
   simpa[Qm hk']using this
  obtain⟨d,g1,g2,g3⟩:=this;refine⟨d,by simpa[hcl.symm▸Jj]using g1,g2, ?_⟩
  simp only[Jo,Jk]at g3;rw[←hxl,xZ2]at g3;simp only[zY3];omega
theorem wXo{c:C}{v:Value}{n:Nat}(ho:yJ7 w c v.cells.toList n)(hf:zYc v=c.agg):∃d:El c,VR Phi0 (yQr w) w (valC c d) v∧Fit c d∧siz c d≤n:=by
 obtain⟨d,h1,h2,h3⟩:=ho;refine⟨d, ?_,h2,h3⟩;have one:zYc v=false→v.cells.toList=[v]:=fun h=>by cases v<;>simp[zYc]at h<;>rfl
 have agg:zYc v=true→∃arr,v=.agg arr:=fun h=>by cases v<;>simp[zYc]at h;exact⟨_,rfl⟩
 cases c with
 |unit=>obtain⟨arr,rfl⟩:=agg hf;simpa[Value.cells,valC,CV.flat]using VR.agg _ _ h1
 |pair a b=>obtain⟨arr,rfl⟩:=agg hf;simpa[Value.cells,valC,CV.flat]using VR.agg _ _ h1
 |arr n c=>obtain⟨arr,rfl⟩:=agg hf;simpa[Value.cells,valC,CV.flat]using VR.agg _ _ h1
 |mix b c=>
  rw[one hf]at h1;simp only[valC,zWd]at h1⊢;cases h1 with|cons _ _ _ _ h _=>exact h
 |_=>rw[one hf]at h1;cases h1 with|cons _ _ _ _ h _=>exact h
theorem wQi(hty:ty.Ok P):∀(ts:List TypeId) (cs:List C) (vs:List Value) (ds:List (DataW H)) (ps:List MemPlace),ts.mapM (layC ty 40)=some cs→
  (∀(j:Nat) (t:TypeId) (v:Value) (c:C),ts[j]?=some t→vs[j]?=some v→cs[j]?=some c→zYc v=c.agg)→DataW.TrodAll enc P w base sp held ts vs ds ps→
  ∃d:Els cs,VRL Phi0 (yQr w) w ((zQ5 cs d).map VV.cv) vs∧Fits cs d∧sizs cs d≤zK8 ds
 |[],cs,vs,ds,ps,hc,_,h=>by
  simp at hc;subst hc;obtain⟨rfl,rfl,_⟩:=trodAll_nil h;exact⟨(), .nil,trivial,by simp[sizs]⟩
 | t::ts,cs,vs,ds,ps,hc,ha,h=>by
  rw[K7]at hc;cases h1:layC ty 40 t with
  |none=>simp[h1]at hc
  | some c=>
   cases h2:ts.mapM (layC ty 40)with
   |none=>simp[h1,h2]at hc
   |some cs'=>
    simp[h1,h2]at hc;subst hc;obtain⟨v,vs',d,ds',p,q,rfl,rfl,rfl,hd,hr⟩:=trodAll_cons h;obtain⟨fuel,hf⟩:=hd;obtain⟨ho,_⟩:=vWv hty 40 c fuel t _ _ h1 hf;obtain⟨el,e2,e3,e4⟩:=wXo ho (ha 0 t v c rfl rfl rfl)
    obtain⟨els,g1,g2,g3⟩:=wQi hty ts cs' vs' ds' q h2 (fun j t v c ht hv hc=>ha (j+1) t v c (by simpa using ht) (by simpa using hv) (by simpa using hc)) hr
    cases cs' with
    |nil=>exact⟨el,by simp only[zQ5,Qg,Q8,zQv];exact .cons _ _ _ _ e2 g1,e3,by simp only[sizs,zK8]at e4⊢;omega⟩
    |cons c2 cs2=>exact⟨(el,els),by simp only[zQ5,Qg,zQv];exact .cons _ _ _ _ e2 g1,⟨e3,g2⟩,by simp only[sizs,zK8]at e4⊢;omega⟩
theorem xJi{c:Cfg}(hty:c.ty.Ok P){f:FuncId}{fn:Func}{s:ChangeSpec}{tb:TypeId}{p:PFn}{top:Nat}(hc:fn.params.toList.mapM (layC c.ty 40)=some p.args)
  (hr:fn.resultTypes=#[tb]) (ht:P.underlying tb=some .bool) (hv:s.vars=[]) (hs:∀ds:List (DataW H),ds.length=fn.params.size→s.fn H ds={results:=[.lit (.bool true)],args:=ds})
  (hl:laidOutB P=true) (hrd:(fn.params.toList.all fun t=>P.readableRec t&&decide (t<P.types.size))=true) (hag:(fn.params.toList.map (wYj P))=p.args.map C.agg)
  (hF:zXl P c f p) (hres:p.res=[.bool]) (hlaw:∀d:Els p.args,Fits p.args d→sizs p.args d≤top→∃r,p.fn d=some r∧oneV (zQ5 p.res r)=.bool true)
  (W:World) (hglob:zYl c Phi0 (yQr W) W) (base:Nat) (args:Array Value) (ds gs:List (DataW H)) (before:List MemPlace) (hval:∀(j:Nat) t v,fn.params[j]?=some t→args[j]?=some v→Value.okWide P W .any base t v)
  (hW:DataW.Whole enc P fn.params.toList s.vars false W args.toList ds gs before) (htop:zK8 (ds++gs)≤top):
  Calls P f args W fun e W'=>∃v,e=.returned v∧s.post enc P fn false true false false W args v W':=by
 have hW':=hW;obtain⟨p1,q1,hA0,hV,rfl,hfz,hnd⟩:=hW;rw[hv]at hV;obtain⟨rfl,rfl⟩:=trodVars_none hV;have hagg:∀(j:Nat) (t:TypeId) (v:Value) (cc:C),fn.params.toList[j]?=some t→args.toList[j]?=some v→p.args[j]?=some cc→zYc v=cc.agg:=by
  intro j t v cc h1 h2 h5;have h3:=hval j t v (by simpa using h1) (by simpa using h2)
  have h4:wYj P t=cc.agg:=by
   have:=Kr (fun l=>l[j]?) hag
   simpa[h1,h5]using this
  rw[←h4];unfold Value.okWide at h3;split at h3
  ·rename_i hu;obtain⟨cs,rfl,_⟩:=h3;simp[wYj,hu,zYc]
  ·rename_i hu;obtain⟨cs,rfl,_⟩:=h3;simp[wYj,hu,zYc]
  ·rename_i hn1 hn2
   have hf:wYj P t=false:=by
    unfold wYj;split
    ·rename_i hu;exact absurd hu (hn1 _)
    ·rename_i hu;exact absurd hu (hn2 _ _)
    ·rfl
   rw[hf];cases v<;>first|rfl|skip
   exfalso
   unfold Cell.okWide at h3;split at h3<;>rename_i h8<;>(try (cases h8;done))
   unfold Cell.ok at h3;split at h3<;>rename_i h9<;>first|(cases h9;done)|exact h3
 obtain⟨d,hvr,hfit,hsz⟩:=wQi hty _ _ _ _ _ hc hagg hA0;rw[Jq]at htop;obtain⟨r,hr1,hr2⟩:=hlaw d hfit (Kf hsz htop);have hPF:=hF d r hr1;obtain⟨hent,hC⟩:=hPF;have hcall:=hC (yQr W) W args.toList (fun r j h=>h) hglob hvr
 rw[Array.toArray_toList]at hcall;refine hcall.mono ?_;rintro e W' ⟨u,St',rfl,F,_,hu⟩;rw[hr2]at hu;cases hu;refine⟨_,rfl, ?_⟩;have hb:Below W.heap.size W W':=⟨F.os,F.tape,F.output,F.size,fun k hk=>F.keepBlk k hk (by simp[Phi0])⟩
 have hlen:ds.length=fn.params.size:=by
  have:∀{ts:List TypeId} {vs:List Value} {ds:List (DataW H)} {ps:List MemPlace},DataW.TrodAll enc P W 0 (fun _=>true) true ts vs ds ps→ds.length=ts.length:=by
   intro ts;induction ts with
   |nil=>intro vs ds ps h;obtain⟨_,rfl,_⟩:=trodAll_nil h;rfl
   |cons t ts ih=>intro vs ds ps h;obtain⟨_,_,_,_,_,_,rfl,rfl,rfl,_,h2⟩:=trodAll_cons h;simp[ih h2]
  simpa using this hA0
 have hlt:=hW'.lt;refine wJ6 (pa:=p1) (pv:=[]) hW' ?_ ?_ ?_ rfl hb (ok_one hr rfl (okWide_bool_mk ht _))
 ·intro b sp hd
  rw[hr,Jq,hs ds hlen];exact trodAll_cons_mk (shut_bool ht _) trodAll_mk0
 ·intro sp hsp
  rw[Jq,hs ds hlen];exact yZh hl hb hrd hA0 (fun x hx=>hlt x (by simp[hx])) (fun x hx=>hsp x (by simp[hx]))
 ·intro sp _
  rw[hv];show DataW.TrodVars enc P W' sp [] (s.fn H _).vars [];rw[Jq,hs ds hlen];rfl
end
end Go.Eng
/- The tables of a program for the evaluator over typed values, and its functions, one behind the other. -/
namespace Go.Eng
set_option linter.unusedVariables false
structure GlobT (c:Cfg) (g:Nat→Option VV):Prop where
 eq:∀i,c.glob i=(g i).map VV.cv
 pure:zZa c
theorem wYi{c:Cfg}(h:c.glob=fun _=>none):GlobT c (fun _=>none):=⟨fun i=>by rw[h];rfl,fun i v hv=>by rw[h]at hv;simp at hv⟩
def vcOf(g:Nat→Option VV)(c:Cfg)(sp:Nat→List LSpec×List Nat)(l:List (Nat×PFn)):VCfg:=
  { ty:=c.ty,glob:=g,pf:=fun f=>(l.find? (fun p=>p.1==f)).map (·.2),
    code:=fun f=>(c.code f).map fun xf=>{ntmps:=xf.ntmps,results:=xf.results,body:=(toY (sp f).2 xf.body (sp f).1).1,frz:=(sp f).2.contains 999999,lay:=(sp f).2.contains 888888,layE:=(sp f).2.contains 777777,layM:=(sp f).2.contains 666666}}
inductive AllD (P:Program) (c:Cfg):List (Nat×PFn)→Prop where
 |nil:AllD P c []
 |cons {f:Nat} {p:PFn} {l:List (Nat×PFn)} (h:zXl P c f p) (k:AllD P c l):AllD P c ((f,p)::l)
theorem AllD.find{P:Program}{c:Cfg}{l:List (Nat×PFn)}(a:AllD P c l):∀{f:Nat} {p:PFn},(l.find? (fun p=>p.1==f)).map (·.2)=some p→zXl P c f p:=by
 induction a with
 |nil=>intro f p h;simp at h
 | @cons g q l h k ih=>
  intro f p hp;simp only[List.find?_cons]at hp;split at hp
  ·rename_i he
   simp at he hp;subst he;subst hp;exact h
  ·exact ih hp
inductive AllO (P:Program) (c:Cfg):List (Nat×OFn)→Prop where
 |nil:AllO P c []
 |cons {f:Nat} {p:OFn} {l:List (Nat×OFn)} (h:OwnD P c f p) (k:AllO P c l):AllO P c ((f,p)::l)
theorem AllO.find{P:Program}{c:Cfg}{l:List (Nat×OFn)}(a:AllO P c l):∀{f:Nat} {p:OFn},(l.find? (fun p=>p.1==f)).map (·.2)=some p→OwnD P c f p:=by
 induction a with
 |nil=>intro f p h;simp at h
 | @cons g q l h k ih=>
  intro f p hp;simp only[List.find?_cons]at hp;split at hp
  ·rename_i he
   simp at he hp;subst he;subst hp;exact h
  ·exact ih hp
theorem wWx{P:Program}{c:Cfg}{sp:Nat→List LSpec×List Nat}{l:List (Nat×PFn)}{g:Nat→Option VV}(hc:c.Ok P)(hg:GlobT c g)(hl:AllD P c l):(vcOf g c sp l).Ok P c where
 base:=hc
 globs:=hg.pure
 ty:=rfl
 glob:=hg.eq
 pf:=fun f p h=>hl.find h
 opf:=fun f o h=>by simp[vcOf]at h
 rpf:=fun f o h=>by simp[vcOf]at h
 code:=fun f yf h=>by
  simp only[vcOf,J8]at h;obtain⟨xf,h1,rfl⟩:=h;exact⟨xf,h1,rfl,rfl,by simp[toY_x]⟩
 xpf:=fun f h=>by simp[vcOf]at h
 mpf:=fun f o h=>by simp[vcOf]at h
 qpf:=fun f o h=>by simp[vcOf]at h
theorem fnD{P:Program}{c:Cfg}(sp:Nat→List LSpec×List Nat){l:List (Nat×PFn)}{g:Nat→Option VV}(hc:c.Ok P)(hg:GlobT c g)(hl:AllD P c l){f:FuncId}{p:PFn}(h:∀d,p.fn d=vY8 (vcOf g c sp l) 9 f p.args p.res d):zXl P c f p:=
 pureD (wWx hc hg hl) h
def uQa(g:Nat→Option VV)(c:Cfg)(sp:Nat→List LSpec×List Nat)(l:List (Nat×PFn))(own:List Nat)(lo:List (Nat×OFn)):VCfg:=
 {vcOf g c sp l with own:=fun f=>own.contains f,opf:=fun f=>(lo.find? (fun p=>p.1==f)).map (·.2)}
theorem wZ8{P:Program}{c:Cfg}{sp:Nat→List LSpec×List Nat}{own:List Nat}{l:List (Nat×PFn)}{lo:List (Nat×OFn)}{g:Nat→Option VV}(hc:c.Ok P)(hg:GlobT c g)(hl:AllD P c l)(ho:AllO P c lo):(uQa g c sp l own lo).Ok P c:=by
 have ok:=wWx (sp:=sp) hc hg hl;exact⟨ok.base,ok.globs,ok.ty,ok.glob,ok.pf,fun f o h=>ho.find h,ok.rpf,ok.code,ok.xpf,ok.mpf,ok.qpf⟩
theorem fnO{P:Program}{c:Cfg}(sp:Nat→List LSpec×List Nat)(own:List Nat){l:List (Nat×PFn)}{lo:List (Nat×OFn)}{g:Nat→Option VV}(hc:c.Ok P)(hg:GlobT c g)(hl:AllD P c l)(ho:AllO P c lo){f:FuncId}{o:OFn}(h:∀d,o.fn d=wY6 (uQa g c sp l own lo) 9 f o.args o.ores d):OwnD P c f o∧zXl P c f o.pfn:=
 ownD (wZ8 hc hg hl ho) h
inductive AllR (P:Program) (c:Cfg):List (Nat×RFn)→Prop where
 |nil:AllR P c []
 |cons {f:Nat} {p:RFn} {l:List (Nat×RFn)} (h:OwnR P c f p) (k:AllR P c l):AllR P c ((f,p)::l)
theorem AllR.find{P:Program}{c:Cfg}{l:List (Nat×RFn)}(a:AllR P c l):∀{f:Nat} {p:RFn},(l.find? (fun p=>p.1==f)).map (·.2)=some p→OwnR P c f p:=by
 induction a with
 |nil=>intro f p h;simp at h
 | @cons g q l h k ih=>
  intro f p hp;simp only[List.find?_cons]at hp;split at hp
  ·rename_i he
   simp at he hp;subst he;subst hp;exact h
  ·exact ih hp
def vKf(g:Nat→Option VV)(c:Cfg)(sp:Nat→List LSpec×List Nat)(l:List (Nat×PFn))(own:List Nat)(lo:List (Nat×OFn))(lr:List (Nat×RFn)):VCfg:=
 {uQa g c sp l own lo with rpf:=fun f=>(lr.find? (fun p=>p.1==f)).map (·.2)}
theorem xKe{P:Program}{c:Cfg}{sp:Nat→List LSpec×List Nat}{own:List Nat}{l:List (Nat×PFn)}{lo:List (Nat×OFn)}{lr:List (Nat×RFn)}{g:Nat→Option VV}(hc:c.Ok P)(hg:GlobT c g)(hl:AllD P c l)(ho:AllO P c lo)(hr:AllR P c lr):(vKf g c sp l own lo lr).Ok P c:=by
 have ok:=wZ8 (sp:=sp) (own:=own) hc hg hl ho;exact⟨ok.base,ok.globs,ok.ty,ok.glob,ok.pf,ok.opf,fun f o h=>hr.find h,ok.code,ok.xpf,ok.mpf,ok.qpf⟩
theorem fnDr{P:Program}{c:Cfg}(sp:Nat→List LSpec×List Nat)(own:List Nat){l:List (Nat×PFn)}{lo:List (Nat×OFn)}{lr:List (Nat×RFn)}{g:Nat→Option VV}(hc:c.Ok P)(hg:GlobT c g)(hl:AllD P c l)(ho:AllO P c lo)(hr:AllR P c lr){f:FuncId}{p:PFn}(h:∀d,p.fn d=vY8 (vKf g c sp l own lo lr) 9 f p.args p.res d):zXl P c f p:=
 pureD (xKe hc hg hl ho hr) h
theorem fnR{P:Program}{c:Cfg}(sp:Nat→List LSpec×List Nat)(own:List Nat){l:List (Nat×PFn)}{lo:List (Nat×OFn)}{lr:List (Nat×RFn)}{g:Nat→Option VV}(hc:c.Ok P)(hg:GlobT c g)(hl:AllD P c l)(ho:AllO P c lo)(hr:AllR P c lr){f:FuncId}{o:RFn}(h:∀d,o.fn d=wZ2 (vKf g c sp l own lo lr) 9 f o.args o.objs o.res d):OwnR P c f o:=
 ownR (xKe hc hg hl ho hr) h
inductive AllM (P:Program) (c:Cfg):List (Nat×MFn)→Prop where
 |nil:AllM P c []
 |cons {f:Nat} {p:MFn} {l:List (Nat×MFn)} (h:MvD P c f p) (k:AllM P c l):AllM P c ((f,p)::l)
theorem AllM.find{P:Program}{c:Cfg}{l:List (Nat×MFn)}(a:AllM P c l):∀{f:Nat} {p:MFn},(l.find? (fun p=>p.1==f)).map (·.2)=some p→MvD P c f p:=by
 induction a with
 |nil=>intro f p h;simp at h
 | cons h k ih=>
  intro f p hp;simp only[List.find?_cons]at hp;split at hp
  ·rename_i heq
   simp at hp heq;subst hp;subst heq;exact h
  ·exact ih hp
inductive AllX (P:Program):List Nat→Prop where
 |nil:AllX P []
 |cons {f:Nat} {l:List Nat} (h:wWo P f) (k:AllX P l):AllX P (f::l)
theorem AllX.get{P:Program}{l:List Nat}(a:AllX P l):∀{f:Nat},l.contains f=true→wWo P f:=by
 induction a with
 |nil=>intro f h;simp at h
 |cons h k ih=>
  intro f hf;rw[List.contains_cons,Kp,beq_iff_eq]at hf;rcases hf with rfl|hf
  ·exact h
  ·exact ih hf
def vcOfm(g:Nat→Option VV)(c:Cfg)(sp:Nat→List LSpec×List Nat)(l:List (Nat×PFn))(own:List Nat)(lo:List (Nat×OFn))(lr:List (Nat×RFn))(lx:List Nat)(lm:List (Nat×MFn)):VCfg:=
 {vKf g c sp l own lo lr with xpf:=fun f=>lx.contains f,mpf:=fun f=>(lm.find? (fun p=>p.1==f)).map (·.2)}
section
variable {P:Program} {c:Cfg} {sp:Nat→List LSpec×List Nat} {own:List Nat} {l:List (Nat×PFn)} {lo:List (Nat×OFn)} {lr:List (Nat×RFn)} {lx:List Nat} {lm:List (Nat×MFn)} {g:Nat→Option VV}
theorem vKh(hc:c.Ok P)(hg:GlobT c g)(hl:AllD P c l)(ho:AllO P c lo)(hr:AllR P c lr)(hx:AllX P lx)(hm:AllM P c lm):(vcOfm g c sp l own lo lr lx lm).Ok P c:=by
 have ok:=xKe (sp:=sp) (own:=own) hc hg hl ho hr;exact⟨ok.base,ok.globs,ok.ty,ok.glob,ok.pf,ok.opf,ok.rpf,ok.code,fun f h=>hx.get h,fun f o h=>hm.find h,ok.qpf⟩
end
inductive AllQ (P:Program) (c:Cfg):List (Nat×QFn)→Prop where
 |nil:AllQ P c []
 |cons {f:Nat} {p:QFn} {l:List (Nat×QFn)} (h:MvQ P c f p) (k:AllQ P c l):AllQ P c ((f,p)::l)
theorem AllQ.find{P:Program}{c:Cfg}{l:List (Nat×QFn)}(a:AllQ P c l):∀{f:Nat} {p:QFn},(l.find? (fun p=>p.1==f)).map (·.2)=some p→MvQ P c f p:=by
 induction a with
 |nil=>intro f p h;simp at h
 | cons h k ih=>
  intro f p hp;simp only[List.find?_cons]at hp;split at hp
  ·rename_i heq
   simp at hp heq;subst hp;subst heq;exact h
  ·exact ih hp
def vKg(g:Nat→Option VV)(c:Cfg)(sp:Nat→List LSpec×List Nat)(l:List (Nat×PFn))(own:List Nat)(lo:List (Nat×OFn))(lr:List (Nat×RFn))(lx:List Nat)(lm:List (Nat×MFn))(lq:List (Nat×QFn)):VCfg:=
 {vcOfm g c sp l own lo lr lx lm with qpf:=fun f=>(lq.find? (fun p=>p.1==f)).map (·.2)}
section
variable {P:Program} {c:Cfg} {sp:Nat→List LSpec×List Nat} {own:List Nat} {l:List (Nat×PFn)} {lo:List (Nat×OFn)} {lr:List (Nat×RFn)} {lx:List Nat} {lm:List (Nat×MFn)} {lq:List (Nat×QFn)} {g:Nat→Option VV}
theorem xKf(hc:c.Ok P)(hg:GlobT c g)(hl:AllD P c l)(ho:AllO P c lo)(hr:AllR P c lr)(hx:AllX P lx)(hm:AllM P c lm)(hq:AllQ P c lq):(vKg g c sp l own lo lr lx lm lq).Ok P c:=by
 have ok:=vKh (sp:=sp) (own:=own) hc hg hl ho hr hx hm;exact⟨ok.base,ok.globs,ok.ty,ok.glob,ok.pf,ok.opf,ok.rpf,ok.code,ok.xpf,ok.mpf,fun f o h=>hq.find h⟩
theorem fnMq{sp0:Nat→List LSpec×List Nat}(hc:c.Ok P)(hg:GlobT c g)(hl:AllD P c l)(ho:AllO P c lo)(hr:AllR P c lr)(hx:AllX P lx)(hm:AllM P c lm)(hq:AllQ P c lq){f:FuncId}{o:QFn}(h:∀k qs ds d vs,o.fn k qs ds d vs=wWu (vKg g c sp l own lo lr lx lm lq) 9 f o.elt o.qc o.args k qs ds d vs)
  (h0:∀qs d vs,o.fn0 qs d vs=xZ9 (vKg g c sp0 l own lo lr lx lm lq) 9 f o.elt o.qc o.args qs d vs):MvQ P c f o:=
 mvQ (xKf hc hg hl ho hr hx hm hq) (xKf hc hg hl ho hr hx hm hq) h h0
theorem fnRq(hc:c.Ok P)(hg:GlobT c g)(hl:AllD P c l)(ho:AllO P c lo)(hr:AllR P c lr)(hx:AllX P lx)(hm:AllM P c lm)(hq:AllQ P c lq){f:FuncId}{o:RFn}(h:∀d,o.fn d=wZ2 (vKg g c sp l own lo lr lx lm lq) 9 f o.args o.objs o.res d):OwnR P c f o:=
 ownR (xKf hc hg hl ho hr hx hm hq) h
end
end Go.Eng
/- A copy of a slice that asks whether it is nil: what is answered reads alike in both cases. -/
namespace Go.Eng
set_option linter.unusedVariables false
section
variable {P:Program} {c:Cfg}
theorem uWo{t e:TypeId}(hu:P.underlying t=some (.slice e))(a:Option Addr)(len cap l k:Nat)(x y:Operand)(w:World):
  ((do eqGuard .eql t x y (.slice a len cap) (.slice none l k);binOp .eql t (.slice a len cap) (.slice none l k)):Sem Value).run P w=.ok (.bool a.isNone) w:=by
 have h1:(eqGuard .eql t x y (.slice a len cap) (.slice none l k)).run P w=.ok () w:=zWu (fun e=>by cases e) (fun c d e _=>by cases e)
 have h2:(Op.equal t (.slice a len cap) (.slice none l k)).run P w=.ok a.isNone w:=by
  rw[yJy];generalize 9999=D;cases a<;>simp[Op.equalIn,run_underlying hu]
 simp only[Sem.run_bind,h1,Result.andThen_ok,wWj t (show zJo (.slice a len cap)=true from rfl),h2,Sem.run_pure]
theorem vWi{ro:Option Nat}{w:World}{a:Act}{o:Oper}{v:Value}(hp:xQ7 o.op=true)(hrun:(execOp a.eval o).run P w= .ok (.value v) w){next:Act→World→Prop}{Q:Exit→Act→World→Prop}
  (hn:next (a.put o.dst v) w):o.wpIn (Fw ro) 0 P a w next Q:=by
 refine⟨fun _ _=>trivial, ?_⟩
 rw[semAt_plain hp,hrun];exact hn
structure CloneX (P:Program) (c:Cfg) (f:FuncId) (e:TypeId) (C0:C) where
 fd:XFunc
 code:c.code f=some fd
 t:TypeId
 u:TypeId
 e0:Nat
 x1:X
 id:Nat
 o1:Oper
 o2:Oper
 pl:List (Nat×List Nat)
 cnd:X
 rest:X
 und:P.underlying t=some (.slice e)
 body:fd.body=.seq x1 (.seq (.seq (.region id #[o1,o2] false pl) cnd) rest)
 g1:o1.guard=none
 g2:o2.guard=none
 p1:o1.op=.move (.tmp 0)
 d1:o1.dst=some 3
 p2:o2.op=.binOp .eql t (.tmp 3) (.const (.slice none 0 0)) u
 d2:o2.dst=some 4
def xXj(P:Program)(c:Cfg){f:FuncId}{e:TypeId}{C0:C}(k:CloneX P c f e C0)(xs:List (El C0))(Fin:List CV→Heap→Prop):Prop:=
 ∃ T1:List CV,T1[0]? =some (valC (.list C0) xs)∧4<T1.length∧
  zQm P c none k.x1 ((valC (.list C0) xs)::List.replicate (k.fd.ntmps-1) zWt) [] .normal T1 []∧
  ∀b:Bool,(b=true→xs=[])→∃o T2 H2 T' H',zQm P c none k.cnd ((T1.set 3 (valC (.list C0) xs)).set 4 (.bool b)) [] o T2 H2∧
   ((o=.ret∧T'=T2∧H'=H2)∨(o=.normal∧zQm P c none k.rest T2 H2 .ret T' H'))∧Fin T' H'
theorem vX9(hc:c.Ok P){f:FuncId}{e:TypeId}{C0:C}(k:CloneX P c f e C0)(hn1:0<k.fd.ntmps)(xs:List (El C0)){Fin:List CV→Heap→Prop}(hr:xXj P c k xs Fin)
  {Done:Stab→World→Value→World→Prop}
  (hfin:∀{T':List CV} {H':Heap},Fin T' H'→∃v,zXj c.ty H' T' k.fd.results=some [v]∧∀(St:Stab) (w:World),(∀r j,St r j→r<w.heap.size)→∀(φ1:Phi) (St1:Stab) (w1:World) (u:Value),Left w.heap.size Phi0 St [] w H' φ1 St1 w1→VR φ1 St1 w1 v u→Done St w u w1):
  yYr P f∧∀(St:Stab) (w:World) (us:List Value),(∀r j,St r j→r<w.heap.size)→zYl c Phi0 St w→VRL Phi0 St w [valC (.list C0) xs] us→
   Calls P f us.toArray w fun e w'=>∃u,e=.returned u∧Done St w u w':=by
 obtain⟨fn',hf,hn,hb,hnt,hrs,hok⟩:=hc.code f k.fd k.code;obtain⟨T1,hT0,hT4,hx1,hboth⟩:=hr;refine⟨yXh hf hn hb,fun St w us hst hg hu=>?_⟩
 have R:=Rel.xYw hst;cases hu with|cons _ u _ us0 hu0 hu1=>
 cases hu1;refine callsIn_wide (n:=0)|>.1 (callsIn_of_wp_marks (F:=Fw none) hf hb trivial ?_);have ht0:VRL Phi0 St w ((valC (.list C0) xs)::List.replicate (k.fd.ntmps-1) zWt) (([u].toArray:Array Value)++Array.replicate (fn'.ntmps-([u].toArray:Array Value).size) undef).toList:=by
  simp only[Wp,Wi,Kj,Jc,Wa];rw[hnt];exact(VRL.cons _ _ _ _ hu0 .nil).append (VRL.replicate _ zKj)
 have hcode:k.fd.body.code=.seq k.x1.code (.seq (.seq (.region k.id #[k.o1,k.o2] false) k.cnd.code) k.rest.code):=by rw[k.body];rfl
 rw[hcode];have fin:∀{T':List CV} {H':Heap},Fin T' H'→∀(φ1:Phi) (St1:Stab) (w1:World) (a1:Act) (ms:List Deferred),
   Left w.heap.size Phi0 St [] w H' φ1 St1 w1→Marks w.heap.size φ1 w1 ms→VRL φ1 St1 w1 T' a1.tmps.toList→a1.defers=ms++[]→
   LeavesInM (Fw none) 0 P fn' a1.tmps (fun e w'=>∃u,e=.returned u∧Done St w u w') a1.defers .returning w1:=by
  intro T' H' hF φ1 St1 w1 a1 ms l1 hm ht1 hd1;obtain⟨v,hres,hP⟩:=hfin hF;rw[hd1,Jq];refine yW7 (by simp) ms w1 l1 hm fun w' l2 m2=>?_
  obtain⟨vv,hv1,hv2⟩:=yXr hc l2.rel (ht1.mono m2) hrs hres;exact⟨vv,hv1,vv,rfl,hP St w hst _ _ _ _ l2 hv2⟩
 refine wpIn_seq (wpIn_mono (hx1 w.heap.size Phi0 St w _ none R hg trivial ht0) fun e1 a1 w1 p=>?_)
 obtain⟨rfl,φ1,St1,l1,ms1,hm1,ht1,hd1⟩:=p.normal;obtain⟨v0,hv0,hvr0⟩:=ht1.get 0 _ hT0;obtain⟨a,len,cap,rfl,hnil⟩:∃a len cap,v0=.slice a len cap∧(a.isNone=true→xs=[]):=by
  cases hvr0 with
  |slice _ _ _ _ a cap vs hat _ _ _ _ _=>
   refine⟨a,_,cap,rfl,fun hn=>?_⟩
   rcases hat with h|⟨a',rfl,_⟩
   ·simpa using h
   ·simp at hn
 obtain⟨o,T2,H2,T',H',hcnd,hthen,hfr⟩:=hboth a.isNone hnil;have ev0:a1.eval (.tmp 0)=.slice a len cap:=by
  have:a1.tmps[0]?=some (.slice a len cap):=by simpa using hv0
  simp[Act.eval,this]
 have hsz:4<a1.tmps.size:=by have:=ht1.length;simp at this;omega
 refine wpIn_seq (wpIn_seq (wpIn_region ?_));show wpOpsIn (Fw none) 0 P #[k.o1,k.o2] _ [0,1] a1 w1;have hr1:(execOp a1.eval k.o1).run P w1=.ok (.value (.slice a len cap)) w1:=by
  unfold execOp;rw[k.p1];simp[ev0]
 simp only[wpOpsIn];have w1t:∀y,Region.wanted k.o1 y=true:=fun y=>by simp[Region.wanted,k.g1]
 have w2t:∀y,Region.wanted k.o2 y=true:=fun y=>by simp[Region.wanted,k.g2]
 simp only[List.getElem?_toArray,K8,List.getElem?_cons_succ,w1t,w2t,if_true];refine vWi (by rw[k.p1];rfl) hr1 ?_
 have ev3:(a1.put k.o1.dst (.slice a len cap)).eval (.tmp 3)=.slice a len cap:=by
  rw[k.d1];have:(a1.tmps.setIfInBounds 3 (Value.slice a len cap))[3]?=some (.slice a len cap):=by
   rw[Array.getElem?_setIfInBounds_self_of_lt (by omega)]
  simp[Act.eval,Act.put,this]
 have hr2:(execOp (a1.put k.o1.dst (.slice a len cap)).eval k.o2).run P w1=.ok (.value (.bool a.isNone)) w1:=by
  unfold execOp;rw[k.p2];simp only[ev3];have:=uWo (P:=P) k.und a len cap 0 0 (.tmp 3) (.const (.slice none 0 0)) w1;simp only[Act.eval,Sem.run_bind]at this⊢
  rw[this];rfl
 refine vWi (by rw[k.p2];rfl) hr2 ?_
 show Code.wpIn (Fw none) 0 P k.cnd.code _ ((a1.put k.o1.dst (.slice a len cap)).put k.o2.dst (.bool a.isNone)) w1;have ht3:VRL φ1 St1 w1 ((T1.set 3 (valC (.list C0) xs)).set 4 (.bool a.isNone)) ((a1.put k.o1.dst (.slice a len cap)).put k.o2.dst (.bool a.isNone)).tmps.toList:=by
  have h3:=zKy ht1 k.o1.dst hvr0;have h4:=zKy h3 k.o2.dst (VR.bool (φ:=φ1) (St:=St1) (w:=w1) a.isNone);rw[k.d1,k.d2]at h4⊢;exact h4
 have hdef:((a1.put k.o1.dst (.slice a len cap)).put k.o2.dst (.bool a.isNone)).defers=ms1++[]:=by
  rw[zQ1,zQ1];exact hd1
 refine wpIn_mono (hcnd _ φ1 St1 w1 _ none l1.rel (hg.mono l1.frm.toMono) trivial ht3) fun e4 a4 w4 p4=>?_
 rw[hdef]at p4;have p5:Post w.heap.size Phi0 St [] w [] o T2 H2 e4 a4 w4:=Post.trans l1 hm1 p4;rcases hthen with⟨rfl,rfl,rfl⟩|⟨rfl,hrest⟩
 ·obtain⟨φ5,St5,l5,ms5,hm5,hout⟩:=p5
  cases e4<;>simp only[yZf]at hout;exact fin hfr _ _ _ _ _ l5 hm5 hout.1 hout.2
 ·obtain⟨rfl,φ5,St5,l5,ms5,hm5,ht5,hd5⟩:=p5.normal
  show Code.wpIn (Fw none) 0 P k.rest.code _ a4 w4;refine wpIn_mono (hrest _ φ5 St5 w4 _ none l5.rel (hg.mono l5.frm.toMono) trivial ht5) fun e6 a6 w6 p6=>?_
  rw[hd5]at p6;have p7:Post w.heap.size Phi0 St [] w [] .ret T' H' e6 a6 w6:=Post.trans l5 hm5 p6;obtain⟨φ7,St7,l7,ms7,hm7,hout⟩:=p7;cases e6<;>simp only[yZf]at hout
  exact fin hfr _ _ _ _ _ l7 hm7 hout.1 hout.2
theorem wYn (hc : c.Ok P){f:FuncId}{e:TypeId}{C0:C}(k:CloneX P c f e C0)(hn1:0<k.fd.ntmps)(xs:List (El C0))(hr:xXj P c k xs fun T' H'=>∃v,zXj c.ty H' T' k.fd.results=some [v]∧FR H' v (valC (.list C0) xs)):zW2 P c f [valC (.list C0) xs] (valC (.list C0) xs):=by
  obtain ⟨h1, h2⟩ :=vX9 hc k hn1 xs hr (Done:=fun St w u w'=>∃St',Frm 0 Phi0 St w Phi0 St' w'∧(∀r j,St' r j→r<w'.heap.size)∧VR Phi0 St' w' (valC (.list C0) xs) u) (by
    intro T' H' ⟨v,hres,hfr⟩;refine⟨v,hres,fun St w hst φ1 St1 w' vv l2 hv2=>?_⟩
    have e1:=hfr _ _ _ _ _ l2.rel hv2;have f:=l2.frm;refine⟨Froz φ1 St1 H', ?_, ?_,e1⟩
    · exact { ext :=fun _=> .refl _,st:=fun r j h=> .inl (f.st r j h),keep:=f.keep,size:=f.size,
              stNew:=fun r j h=>by
                rcases h with h|⟨b,base,size,cs,hb,_⟩|h
                · rcases f.stNew r j h with h|h|⟨b,e,hb,_⟩
                  ·exact .inl h
                  ·exact .inr (.inl h)
                  ·simp[Phi0]at hb
                ·exact .inr (.inl (l2.rel.own b r base size hb).1)
                · obtain⟨b,rs,hb,hh⟩:=h.ent
                  exact .inr (.inl (l2.rel.lt hb hh).1),
              blkNew:=fun b e r hb=>by simp[Phi0]at hb,
              keepBlk:=fun r hr _=>f.keepBlk r hr (by simp[Phi0]),
              idNew:=fun _ _ _=>rfl,os:=f.os,output:=f.output,tape:=f.tape}
    · intro r j h
      rcases h with h|⟨b,base,size,cs,hb,_⟩|h
      ·exact l2.rel.stLt r j h
      ·exact(l2.rel.lt hb rfl).2
      · obtain⟨b,rs,hb,hh⟩:=h.ent
        exact(l2.rel.lt hb hh).2)
  refine⟨h1,fun St w us hst hg hu=>(h2 St w us hst hg hu).mono ?_⟩
  rintro e w' ⟨u,rfl,St',k1,k2,k3⟩;exact⟨u,St',rfl,k1,k2,k3⟩
end
end Go.Eng
/- A copy of a slice that asks whether it is nil: its text on plain data. -/
namespace Go.Eng
set_option linter.unusedVariables false
def xZm{β:Type}:xXk β:=fun _ _ _ _ _ _=>none
noncomputable def xQf(c:VCfg)(yc yr:Y)(res:List ResultVar)(C0:C)(fin:VV→zQa→Option (Els [.list C0]))(t0:List VV)(b:Bool):Option (Els [.list C0]):=
 vx c xZm 0 none yc ((t0.set 3 (t0.getD 0 .undef)).set 4 (.bool b)) [] [] fun o t h m=>match o with
  | .ret=>zJc c.ty h t res fun vs=>match vs with|[v]=>fin v h|_=>none
  | .normal=>vx c xZm 0 none yr t h m fun o t h m=>match o with
   | .ret=>zJc c.ty h t res fun vs=>match vs with|[v]=>fin v h|_=>none
   |_=>none
  |_=>none
def Y.clA:Y→Y| .seq a _=>a|y=>y
def Y.clC:Y→Y| .seq _ (.seq (.seq _ y) _)=>y|y=>y
def Y.clR:Y→Y| .seq _ (.seq (.seq _ _) y)=>y|y=>y
noncomputable def yX8(c:VCfg)(f:FuncId)(C0:C)(fin:VV→zQa→Option (Els [.list C0]))(b:Bool)(d:Els [.list C0]):Option (Els [.list C0]):=
 match c.code f with
 |some yf=>xQf c yf.body.clC yf.body.clR yf.results C0 fin ((zQ5 [.list C0] d++List.replicate (yf.ntmps-1) VV.undef).set 2 .nsl) b
 |none=>none
noncomputable def wJn(c:VCfg)(f:FuncId)(C0:C)(b:Bool)(d:Els [.list C0]):Option (Els [.list C0]):=yX8 c f C0 (fun v h=>wQf [.list C0] v h some) b d
end Go.Eng
/- A copy of a slice that asks whether it is nil, on plain data. -/
namespace Go.Eng
set_option linter.unusedVariables false
section
variable {P:Program} {c:Cfg}
theorem xWj{β:Type}:yXo P c (xZm (β:=β)):=fun f args h m K KP r he=>by simp[xZm]at he
theorem wZn{vc:VCfg}(ok:vc.Ok P c){yc yr:Y}(h1:yc.x.ok)(h2:yr.x.ok){res:List ResultVar}{C0:C}{fin0:VV→zQa→Option (Els [.list C0])}{t0:List VV}{b:Bool}{r:Els [.list C0]}(he:xQf vc yc yr res C0 fin0 t0 b=some r):
  ∃o T2 H2 T' H',zQm P c none yc.x (((t0.map VV.cv).set 3 (t0.getD 0 .undef).cv).set 4 (.bool b)) [] o T2 H2∧
   ((o=.ret∧T'=T2∧H'=H2)∨(o=.normal∧zQm P c none yr.x T2 H2 .ret T' H'))∧∃(h:zQa) (v:VV),H'=hc h∧zXj c.ty H' T' res=some [v.cv]∧fin0 v h=some r:=by
 unfold xQf at he;obtain⟨o,t',h',m',k1,k2,k3⟩:=xQk ok xWj 0 none yc _ _ _ _ _ he;replace k2:=k2 h1;have e0:(((t0.set 3 (t0.getD 0 .undef)).set 4 (.bool b)).map VV.cv)=((t0.map VV.cv).set 3 (t0.getD 0 .undef).cv).set 4 (.bool b):=by
  rw[Jb,Jb];rfl
 rw[e0]at k2;have fin:∀{t h},(zJc vc.ty h t res fun vs=>match vs with|[v]=>fin0 v h|_=>none)=some r→∃v:VV,zXj c.ty (hc h) (t.map VV.cv) res=some [v.cv]∧fin0 v h=some r:=by
  intro t h hr;obtain⟨vs,g1,g2⟩:=yQy ok hr;split at g1<;>(try (simp at g1;done))
  rename_i v;exact⟨v,g2,g1⟩
 cases o with
 |ret=>
  obtain⟨v,g1,g2⟩:=fin k1;exact⟨_,_,_,_,_,k2, .inl ⟨rfl,rfl,rfl⟩,_,v,rfl,g1,g2⟩
 | normal=>
  obtain⟨o,t2,h9,m2,j1,j2,_⟩:=xQk ok xWj 0 none yr _ _ _ _ _ k1;replace j2:=j2 h2;cases o with
  |ret=>
   obtain⟨v,g1,g2⟩:=fin j1;exact⟨_,_,_,_,_,k2, .inr ⟨rfl,j2⟩,_,v,rfl,g1,g2⟩
  |_=>simp at j1
 |_=>simp at k1
theorem wYm (sp :Nat→List LSpec×List Nat){g:Nat→Option VV}(hc:c.Ok P)(hg:GlobT c g){f:FuncId}{e:TypeId}{C0:C}(k:CloneX P c f e C0){fin0:VV→zQa→Option (Els [.list C0])}{fn:Els [.list C0]→Option (Els [.list C0])}
    (hn:4<k.fd.ntmps)
    (hA:(toY (sp f).2 k.fd.body (sp f).1).1.clA.x=k.x1) (hC:(toY (sp f).2 k.fd.body (sp f).1).1.clC.x=k.cnd) (hR:(toY (sp f).2 k.fd.body (sp f).1).1.clR.x=k.rest)
    (hx:∀d:Els [.list C0],vx (β:=Out×List VV×zQa×List Nat) (vcOf g c sp []) xZm 0 none (toY (sp f).2 k.fd.body (sp f).1).1.clA (zQ5 [.list C0] d++List.replicate (k.fd.ntmps-1) VV.undef) [] [] (fun o t h m=>some (o,t,h,m))=
      some (.normal,(zQ5 [.list C0] d++List.replicate (k.fd.ntmps-1) VV.undef).set 2 .nsl,[],[]))
    (h0:∀d,fn d=yX8 (vcOf g c sp []) f C0 fin0 false d) (h2:yX8 (vcOf g c sp []) f C0 fin0 true ([]:List (El C0))=some ([]:List (El C0))) {r:Els [.list C0]} (hr:fn r=some r):
    xXj P c k r fun T' H'=>∃(h:zQa) (v:VV),H'=Go.Eng.hc h∧zXj c.ty H' T' k.fd.results=some [v.cv]∧fin0 v h=some r:=by
  have ok:(vcOf g c sp []).Ok P c:=wWx hc hg .nil;have hbody:k.fd.body.ok:=by obtain⟨_,_,_,_,_,_,h⟩:=hc.code f k.fd k.code;exact h
  rw[k.body]at hbody;obtain⟨o1,o2,o3,o4⟩:k.x1.ok∧k.cnd.ok∧k.rest.ok∧True:=⟨hbody.1,hbody.2.1.2,hbody.2.2,trivial⟩;obtain⟨o',t',h',m',g1,g2,_⟩:=xQk ok xWj 0 none _ _ _ _ _ _ (hx r)
  replace g2:=g2 (by rw[hA];exact o1)
  simp only[Qa,Je]at g1;obtain⟨rfl,rfl,rfl,rfl⟩:=g1;rw[hA]at g2;have cl:∀b d,yX8 (vcOf g c sp []) f C0 fin0 b d=xQf (vcOf g c sp []) (toY (sp f).2 k.fd.body (sp f).1).1.clC (toY (sp f).2 k.fd.body (sp f).1).1.clR k.fd.results C0 fin0 ((zQ5 [.list C0] d++List.replicate (k.fd.ntmps-1) VV.undef).set 2 .nsl) b:=by
    intro b d;unfold yX8;have:(vcOf g c sp []).code f=some {ntmps:=k.fd.ntmps,results:=k.fd.results,body:=(toY (sp f).2 k.fd.body (sp f).1).1,frz:=(sp f).2.contains 999999,lay:=(sp f).2.contains 888888,layE:=(sp f).2.contains 777777,layM:=(sp f).2.contains 666666}:=by
      simp[vcOf,k.code]
    rw[this]
  have hcv:∀d:Els [.list C0],(zQ5 [.list C0] d).map VV.cv=[valC (.list C0) d]:=fun d=>by simp[zQ5,zQv]
  have et:((zQ5 [.list C0] r++List.replicate (k.fd.ntmps-1) VV.undef).map VV.cv)=valC (.list C0) r::List.replicate (k.fd.ntmps-1) zWt:=by
    rw[Qw,hcv,Wb];rfl
  rw[et]at g2;have et2:((zQ5 [.list C0] r++List.replicate (k.fd.ntmps-1) VV.undef).set 2 .nsl).getD 0 .undef=valV (.list C0) r:=by
    simp[zQ5]
  refine⟨_, ?_, ?_,g2,fun b hb=>?_⟩
  ·rw[Jb,et];simp
  ·simp[zQ5];omega
  · have hs:yX8 (vcOf g c sp []) f C0 fin0 b r=some r:=by
      cases b with
      |false=>rw[←h0];exact hr
      | true => have:r=([]:List (El C0)):=hb rfl
                subst this;exact h2
    rw[cl]at hs;have:=wZn ok (by rw[hC];exact o2) (by rw[hR];exact o3) hs
    rw[et2,zQv,hC,hR]at this;exact this
theorem cloneD(sp:Nat→List LSpec×List Nat){g:Nat→Option VV}(hc:c.Ok P)(hg:GlobT c g){f:FuncId}{e:TypeId}{C0:C}(k:CloneX P c f e C0){fn:Els [.list C0]→Option (Els [.list C0])}
  (hn:4<k.fd.ntmps)
  (hA:(toY (sp f).2 k.fd.body (sp f).1).1.clA.x=k.x1) (hC:(toY (sp f).2 k.fd.body (sp f).1).1.clC.x=k.cnd) (hR:(toY (sp f).2 k.fd.body (sp f).1).1.clR.x=k.rest)
  (hx:∀d:Els [.list C0],vx (β:=Out×List VV×zQa×List Nat) (vcOf g c sp []) xZm 0 none (toY (sp f).2 k.fd.body (sp f).1).1.clA (zQ5 [.list C0] d++List.replicate (k.fd.ntmps-1) VV.undef) [] [] (fun o t h m=>some (o,t,h,m))=
   some (.normal,(zQ5 [.list C0] d++List.replicate (k.fd.ntmps-1) VV.undef).set 2 .nsl,[],[]))
  (h0:∀d,fn d=wJn (vcOf g c sp []) f C0 false d) (h2:wJn (vcOf g c sp []) f C0 true ([]:List (El C0))=some ([]:List (El C0))) (h3:∀d r,fn d=some r→r=d):
  zXl P c f {args:=[.list C0],res:=[.list C0],fn:=fn}:=by
 intro d r hr;have hr':fn d=some r:=hr;have e:=h3 d r hr';subst e;have hcv:∀d:Els [.list C0],(zQ5 [.list C0] d).map VV.cv=[valC (.list C0) d]:=fun d=>by simp[zQ5,zQv]
 have e1:(oneV (zQ5 [.list C0] r)).cv=valC (.list C0) r:=by rw[zXa,hcv];rfl
 show zW2 P c f ((zQ5 [.list C0] r).map VV.cv) (oneV (zQ5 [.list C0] r)).cv;rw[hcv,e1];obtain⟨T1,q1,q2,q3,q4⟩:=wYm sp hc hg k hn hA hC hR hx h0 h2 hr';refine wYn hc k (by omega) r ⟨T1,q1,q2,q3,fun b hb=>?_⟩
 obtain⟨o,T2,H2,T',H',g1,g2,h,v,rfl,g3,g4⟩:=q4 b hb;refine⟨o,T2,H2,T',_,g1,g2,v.cv,g3, ?_⟩;obtain⟨d,e1,e2⟩:=yY4 g4;simp only[Qa]at e1;subst e1;rw[zXa]at e2
 simp only[zQ5,Qg,Q8,zQv,oneOf]at e2;exact e2
end
end Go.Eng
/- A copy of a slice that asks whether it is nil, found in the tables. -/
namespace Go.Eng
set_option linter.unusedVariables false
def X.c1:X→X| .seq a _=>a|x=>x
def X.cC:X→X| .seq _ (.seq (.seq _ y) _)=>y|y=>y
def X.cR:X→X| .seq _ (.seq (.seq _ _) y)=>y|y=>y
def X.cOps:X→Array Oper| .seq _ (.seq (.seq (.region _ ops _ _) _) _)=>ops|_=>#[]
def X.cId:X→Nat| .seq _ (.seq (.seq (.region id _ _ _) _) _)=>id|_=>0
def X.cPl:X→List (Nat×List Nat)| .seq _ (.seq (.seq (.region _ _ _ pl) _) _)=>pl|_=>[]
def _root_.Go.Oper.cT(o:Oper):TypeId:=match o.op with| .binOp _ t _ _ _=>t|_=>0
def _root_.Go.Oper.cU(o:Oper):TypeId:=match o.op with| .binOp _ _ _ _ u=>u|_=>0
def clx{P:Program}{c:Cfg}{f:FuncId}{C0:C}(fd:XFunc)(e:TypeId)(o1 o2:Oper)(code:c.code f=some fd)(und:P.underlying o2.cT=some (.slice e))(body:fd.body= .seq fd.body.c1 (.seq (.seq (.region fd.body.cId #[o1,o2] false fd.body.cPl) fd.body.cC) fd.body.cR))
  (g1:o1.guard=none) (g2:o2.guard=none) (p1:o1.op=.move (.tmp 0)) (d1:o1.dst=some 3) (p2:o2.op=.binOp .eql o2.cT (.tmp 3) (.const (.slice none 0 0)) o2.cU) (d2:o2.dst=some 4):CloneX P c f e C0:=
 {fd,code,t:=o2.cT,u:=o2.cU,e0:=0,x1:=fd.body.c1,id:=fd.body.cId,o1,o2,pl:=fd.body.cPl,cnd:=fd.body.cC,rest:=fd.body.cR,und,body,g1,g2,p1,d1,p2,d2}
end Go.Eng
/- Rules for functions on plain data. -/
namespace Go.Eng
set_option linter.unusedVariables false
section
variable {σ β:Type}
theorem zWx{f:σ→(σ→Option β)→Option β}{r:β}(I:σ→Prop)(μ:σ→Nat)(step:∀d k,I d→(∀d',I d'→μ d'<μ d→k d'=some r)→f d k=some r){d:σ}(h0:I d)(hb:μ d<18446744073709551616):
  Z.loop f d=some r:=by
 rw[Z.vW8];have key:∀(n:Nat) (d:σ),I d→μ d<n→wQw f n d=some r:=by
  intro n;induction n with
  |zero=>intro d _ h;omega
  |succ n ih=>
   intro d hI hlt;show f d (wQw f n)=some r;exact step d _ hI fun d' hI' hlt'=>ih d' hI' (by omega)
 exact key bigN d h0 hb
end
namespace Z
variable {α β:Type}
@[simp] theorem zYw(x:α)(k:α→Option β):bnd x k=k x:=rfl
@[simp] theorem bind_some(x:α)(k:α→Option β):bind (some x) k=k x:=rfl
@[simp] theorem ilt_nat(a b:Nat):ilt (a:Int) (b:Int)=decide (a<b):=by simp[ilt]
@[simp] theorem ofN_eq(n:Nat):ofN n=(n:Int):=rfl
@[simp] theorem len_eq(l:List α):len l=l.length:=rfl
@[simp] theorem toN_nat(n:Nat):toN (n:Int)=n:=by simp[toN]
@[simp] theorem toN_zero:toN 0=0:=rfl
@[simp] theorem app_eq(l k:List α):app l k=l++k:=rfl
@[simp] theorem add_eq(a b:Int):add a b=a+b:=rfl
@[simp] theorem sub_eq(a b:Int):sub a b=a-b:=rfl
@[simp] theorem mul_eq(a b:Int):mul a b=a*b:=rfl
@[simp] theorem addN_eq(a b:Nat):addN a b=a+b:=rfl
@[simp] theorem subN_eq(a b:Nat):subN a b=a-b:=rfl
@[simp] theorem bnot_eq(a:Bool):bnot a=!a:=rfl
@[simp] theorem uWe(b:Bool):zQu false true b=b:=by simp[zQu]
@[simp] theorem pick_tt(b:Bool):zQu true true b=true:=by simp[zQu]
@[simp] theorem pick_tf(b:Bool):zQu true b false=b:=by simp[zQu]
@[simp] theorem pick_true(a b:Bool):zQu true a b=a:=by simp[zQu]
@[simp] theorem pick_false(a b:Bool):zQu false a b=b:=by simp[zQu]
theorem wrap_i64{x:Int}(h1: -9223372036854775808≤x)(h2:x≤9223372036854775807):wrap .i64 x=x:=by
 have key:IntKind.wrap .i64 x=if x % 18446744073709551616≥9223372036854775808 then x % 18446744073709551616-18446744073709551616 else x % 18446744073709551616:=by
  unfold IntKind.wrap;by_cases h:x % 18446744073709551616≥9223372036854775808
  ·have:(IntKind.signed .i64&&decide (x % (2^IntKind.bits .i64:Int)≥(2^(IntKind.bits .i64-1):Int)))=true:=by
    simp only[IntKind.signed,K5,decide_eq_true_eq];exact h
   rw[Qf h];exact Qf this
  ·have:¬(IntKind.signed .i64&&decide (x % (2^IntKind.bits .i64:Int)≥(2^(IntKind.bits .i64-1):Int)))=true:=by
    simp only[IntKind.signed,K5,decide_eq_true_eq];exact h
   rw[Qi h];exact Qi this
 show IntKind.wrap .i64 x=x;rw[key];split<;>omega
theorem yZ8{n:Nat}(h:n<9223372036854775807):wrap .i64 (add (n:Int) 1)=((n+1:Nat):Int):=by
 rw[wrap_i64]<;>simp only[add_eq]<;>omega
end Z
end Go.Eng
/- Calls whose answers are known already: a long evaluation, cut into theorems. -/
namespace Go.Eng
set_option linter.unusedVariables false
abbrev Memo:=FuncId×List CV×CV
def yY9(f:FuncId)(args:List CV):List Memo→Option CV
 |[]=>none
 |e::es=>if e.1==f&&CV.yZb e.2.1 args then some e.2.2 else yY9 f args es
def wJr(P:Program)(c:Cfg)(e:Memo):Prop:=zW2 P c e.1 e.2.1 e.2.2∧zQ2 e.2.1=true∧zWc e.2.2=true
inductive MemoOk (P:Program) (c:Cfg):List Memo→Prop where
 |nil:MemoOk P c []
 |cons {e:Memo} {es:List Memo} (h:wJr P c e) (k:MemoOk P c es):MemoOk P c (e::es)
section
variable {P:Program} {c:Cfg}
theorem MemoOk.find{f:FuncId}{args:List CV}{v:CV}{tab:List Memo}(h:MemoOk P c tab):yY9 f args tab=some v→wJr P c (f,args,v):=by
 induction h with
 |nil=>intro h;simp[yY9]at h
 | @cons e es h k ih=>
  intro hf;simp only[yY9]at hf;split at hf
  ·rename_i hc
   simp only[Qc,beq_iff_eq]at hc;simp at hf;rw[←hf,←hc.1,←CV.zX9 _ _ hc.2];exact h
  ·exact ih hf
end
end Go.Eng
/- Functions without choices of their own, gone through with data that isn't known: calls of functions on plain data are known. -/
namespace Go.Eng
set_option linter.unusedVariables false
section
variable {P:Program} {c:Cfg}
end
end Go.Eng
/- A variable of the program that the row lists (an array of whole numbers), as the evaluator wants it. -/
namespace Go.Eng
set_option linter.unusedVariables false
end Go.Eng
