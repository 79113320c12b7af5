/- The engine, part 2. -/
import Derived.Test.YtampmlalpifkoaaM1
import GoSem.Builtin.Append
import GoSem.Builtin.Copy
import Derived.Laws.AppendOwn
import GoSem.Builtin.Clear
import GoSem.Builtin.Len
import GoSem.Builtin.Max
import GoSem.Builtin.Min
import GoSem.Instr.MapUpdate
import GoSem.Instr.MakeMap
import GoSem.Dispatch
set_option linter.unusedSimpArgs false
/- append and copy. -/
namespace Go.Eng
set_option linter.unusedVariables false
section
variable {P:Program} {N:Nat} {φ:Phi} {St:Stab} {h:Heap} {w:World}
def srcE(h:Heap)(j:TI)(x:CV):Option (List CV):=
 match x with
 | .slice esz xs _ _=>if esz=j.size∨xs=[]then some xs else none
 | .sref esz b off len _ _=>match h[b]? with
  |some (.cells cs)=>if esz=j.size∧off+len*esz≤cs.length∧((cs.drop off).take (len*esz)).all CV.one then some (chunks j.agg j.size len ((cs.drop off).take (len*esz)))else none
  |_=>none
 | .gref esz b k off len gen=>match rowG h b k gen with
  |some cs=>if esz=j.size∧off+len*esz≤cs.length∧((cs.drop off).take (len*esz)).all CV.one then some (chunks j.agg j.size len ((cs.drop off).take (len*esz)))else none
  |none=>none
 | .str s=>match j.desc with
  | .int .u8=>some (s.map fun b=>.int .u8 b.toNat)
  |_=>none
 |_=>none
def yXa:TypeDesc→Bool
 | .int _=>true
 |_=>false
def zeroV(i:TI):Option CV:=
 if i.agg then some (.agg i.zero)else
 match i.zero with
 |[z]=>some z
 |_=>none
theorem wZx{i:TI}{zc:CV}{z:Value}(hzv:zeroV i=some zc)(hzc:ofVs z.cells.toList=some i.zero)(hzg:zYc z=i.agg):VR φ St w zc z:=by
 unfold zeroV at hzv;have hcs:=zZ9 (φ:=φ) (St:=St) (w:=w) hzc;cases z<;>simp only[zYc]at hzg<;>simp only[←hzg,if_true,Jv,if_false]at hzv
 case agg cs=>simp at hzv;subst hzv;have:=VR.agg (φ:=φ) (St:=St) (w:=w) _ _ hcs;simpa[Value.cells]using this
 all_goals
  split at hzv<;>(try (simp at hzv;done))
  rename_i z0 hz0;simp at hzv;subst hzv;rw[hz0]at hcs;simp only[Value.cells]at hcs;cases hcs with|cons _ _ _ _ h1 _=>exact h1
def appC(h:Heap)(j:TI)(d:TypeDesc)(x:CV):Option (List CV):=
 if yXa d then(match x,zeroV j with
  | .int _ n,some z=>if 0≤n∧n≤2^40∧n*(j.bytes+1)≤2^44 then some (List.replicate n.toNat z)else none
  |_,_=>none)
 else srcE h j x
structure SrcOk (P:Program) (w:World) (size n:Nat) (x:Value) (vs:List Value):Prop where
 len:∀w',(Builtin.lenOf x).run P w'=.ok n w'
 total:vs.length=n*size
 cells:∀w' k,(∀a,w'.cell? a=w.cell? a)→k≤n→(Builtin.firstCells size k x).run P w'=.ok (vs.take (k*size)).toArray w'
theorem xZx:∀s:List UInt8,(s.map fun b:UInt8=>CV.int .u8 b.toNat).flatMap CV.flat=s.map fun b=>CV.int .u8 b.toNat
 |[]=>rfl
 |b::s=>by simpa[CV.flat]using xZx s
theorem yJb{ty:Ty}(hty:ty.Ok P)(R:Rel N φ St h w){e:TypeId}{j:TI}(hj:ty e=some j){x:CV}{ys:List CV}(hc:srcE h j x=some ys){v:Value}(hx:VR φ St w x v):
  ∃vs,VRL φ St w (ys.flatMap CV.flat) vs∧SrcOk P w j.size ys.length v vs∧∀y∈ys,y.flat.length=j.size:=by
 have rd:∀(a:Addr) (len cap:Nat) (vs:List Value),vs.length=len*j.size→(∀(k:Nat) (v:Value),vs[k]?=some v→w.cell? (a.add k)=some v)→SrcOk P w j.size len (.slice (some a) len cap) vs:=by
  intro a len cap vs hl hcell;refine⟨fun _=>rfl,hl,fun w' k hw hk=>?_⟩
  have hkl:(vs.take (k*j.size)).length=k*j.size:=by
   have:=Qn j.size hk;simp;omega
  have:=zKl P w' a (vs.take (k*j.size)) (fun i u hu=>by
   have hi:i<k*j.size:=by have:=(List.getElem?_eq_some_iff.1 hu).1;omega
   rw[Jh hi]at hu;rw[hw];exact hcell i u hu)
  rw[hkl]at this;simpa[Builtin.firstCells]using this
 unfold srcE at hc;split at hc
 ·rename_i esz xs tok full
  split at hc<;>(try (simp at hc;done))
  rename_i hes;simp at hc;subst hc;cases hx with|slice _ _ _ _ a cap vs hat hvs hsz hcap hfull htok=>
  rcases hes with rfl|rfl
  ·refine⟨vs,hvs, ?_,hsz⟩
   rcases hat with rfl|⟨a',rfl,hat⟩
   ·cases hvs
    refine⟨fun _=>rfl,by simp,fun w' k hw hk=>?_⟩
    have:k=0:=by simpa using hk
    subst this;cases a<;>simp[Builtin.firstCells,loadCells,loadCellsFrom]
   ·have:=hvs.length
    rw[zX2 _ hsz]at this;exact rd a' _ _ _ this.symm (fun k v hv=>hat.cell k v hv)
  ·cases hvs
   refine⟨[], .nil,⟨fun _=>rfl,by simp,fun w' k hw hk=>?_⟩,by simp⟩
   have:k=0:=by simpa using hk
   subst this;cases a<;>simp[Builtin.firstCells,loadCells,loadCellsFrom]
 ·rename_i esz b off len cap ex
  split at hc<;>(try (simp at hc;done))
  rename_i bs hb;split at hc<;>(try (simp at hc;done))
  rename_i hes;obtain⟨rfl,hle,hone⟩:=hes;simp only[Qa]at hc;subst hc;obtain⟨r,base,size,rcap,hφ,rfl,_⟩:=zQn R hx (by simp[live,hb])
  obtain⟨vs,hvs,hlen,hcell⟩:=R.cells hφ hb off (len*j.size) hle;have hl2:((bs.drop off).take (len*j.size)).length=len*j.size:=by simp;omega
  obtain⟨g1,g2⟩:=zYi (hty e j hj).one len ((bs.drop off).take (len*j.size)) (by omega) hone
  rw[g1,Q9 (by omega),zXr]
  exact⟨vs,hvs,rd _ _ _ _ hlen (fun k v hv=>by rw[zKw];exact hcell k v hv),g2⟩
 ·rename_i esz b k off len gen
  split at hc<;>(try (simp at hc;done))
  rename_i bs hb;split at hc<;>(try (simp at hc;done))
  rename_i hes;obtain⟨rfl,hle,hone⟩:=hes;simp only[Qa]at hc;subst hc;obtain⟨rs,row,a,cap,hφ,hr,rfl,hcap,ho,hu',hg⟩:=zW9 R hx hb;have hl2:((bs.drop off).take (len*j.size)).length=len*j.size:=by simp;omega
  obtain⟨g1,g2⟩:=zYi (hty e j hj).one len ((bs.drop off).take (len*j.size)) (by omega) hone
  rw[g1,Q9 (by omega),zXr]
  by_cases h0:len=0
  ·subst h0
   refine⟨[],by simpa using VRL.nil,⟨fun _=>rfl,by simp,fun w' k hw hk=>?_⟩,g2⟩
   have:k=0:=by simpa using hk
   subst this;cases a<;>simp[Builtin.firstCells,loadCells,loadCellsFrom]
  ·have hg:GOk row a j.size off cap:=by
    rcases hg with h1|h1
    ·omega
    ·exact h1
   unfold GOk at hg;split at hg
   ·rename_i r base lim hbk
    obtain⟨rfl,_⟩:=hg;obtain⟨vs,hvs,hlen,hcell⟩:=ho.cells hbk off (len*j.size) hle;exact⟨vs,hvs,rd _ _ _ _ hlen (fun k v hv=>by rw[zKw];exact hcell k v hv),g2⟩
   ·omega
 ·rename_i s
  split at hc<;>(try (simp at hc;done))
  rename_i hd;simp at hc;subst hc;cases hx with|str _ t hs=>
  have f:=hty e j hj;have h1:j.size=1:=f.one (by rw[f.agg,hd];rfl)
  have hts:t.size=s.length:=by rw[←hs];exact(Jk (xs:=t.data)).symm
  have hfl:=xZx s;refine⟨s.map fun b=>.int .u8 b.toNat, ?_,⟨fun _=>by simp[Builtin.lenOf,hts],by simp[h1],fun w' k hw hk=>?_⟩,by simp[CV.flat,h1]⟩
  ·rw[hfl]
   refine VRL.wK0 (by simp) ?_
   intro i c v hc hv;simp only[Qt]at hc hv;cases hsi:s[i]? with
   |none=>simp[hsi]at hc
   |some b=>simp[hsi]at hc hv;subst hc;subst hv;exact .int _ _
  ·simp only[Builtin.firstCells,Sem.run_pure,h1,Wf]
   congr 1;apply Ke;simp[ByteArray.data_extract,←hs,List.extract_eq_take_drop]
 ·simp at hc
theorem wWe(need old b:Nat)(h1:old<need)(h2:need≤2^44)(h3:need*b≤2^44)(hb:b≤2^30):Builtin.nextslicecap need old*b≤2^48:=by
 have key:Builtin.nextslicecap need old≤4*need+1000:=by
  unfold Builtin.nextslicecap;split
  ·omega
  ·split
   ·omega
   ·have g:∀(r c:Nat),c≤4*need+1000→c<need+(need+768)/4+1→Builtin.growBy need r c≤4*need+1000:=by
     intro r;induction r with
     |zero=>intro c hc _;exact hc
     |succ r ih=>
      intro c hc hc2;simp only[Builtin.growBy];split
      ·exact hc
      ·exact ih _ (by omega) (by omega)
    exact g 4 old (by omega) (by omega)
 have:Builtin.nextslicecap need old*b≤(4*need+1000)*b:=Qn b key;have e:(4*need+1000)*b=4*(need*b)+1000*b:=by rw[Qz,Nat.mul_assoc]
 omega
section
variable {t u e ty0:TypeId} {inf:TypeInfo} {z:Value} {d:TypeDesc} (ht:P.underlying t=some (.slice e)) (hi:P.info? e=some inf) (hz:inf.zero=some z)
 (hu:P.underlying u=some d) (hk:∀k,d≠.int k) {x:Value} {base:Option Addr} {sLen sCap n:Nat} {olds news:List Value}
include ht hi hu hk
theorem xKr(hn:SrcOk P w inf.size n x news)(hroom:sLen+n≤sCap){w':World}
  (hst:∀a,base=some a→(storeCells (a.add (sLen*inf.size)) news).run P w=.ok () w') (hnone:base=none→w'=w):
  (Builtin.append_ #[t,u] ty0 #[.slice base sLen sCap,x]).run P w=.ok (.slice base (sLen+n) sCap) w':=by
 have hnf:=hn.cells w n (fun _=>rfl) (Qe _)
 rw[←hn.total,Jj]at hnf;have hl:=hn.len w;cases base with
 |none=>simp[Builtin.append_,run_underlying ht,run_underlying hu,sizeOf,typeInfo,hi,hl,hroom,hnf,hnone rfl]
 |some a=>simp[Builtin.append_,run_underlying ht,run_underlying hu,sizeOf,typeInfo,hi,hl,hroom,hnf,hst a rfl]
include hz
theorem yYv(ho:SrcOk P w inf.size sLen (.slice base sLen sCap) olds)(hn:SrcOk P w inf.size n x news)(hg:sCap<sLen+n)(hb1:sLen+n≤2^44)
  (hb2:(sLen+n)*inf.bytes≤2^44) (hb3:inf.bytes≤2^30):
  ∃nc,sLen+n≤nc∧(Builtin.append_ #[t,u] ty0 #[.slice base sLen sCap,x]).run P w=
   .ok (.slice (some ⟨w.heap.size,0,none⟩) (sLen+n) nc) (w.drew.alloc (.cells (olds.toArray++news.toArray++Builtin.zeroCells z.cells (nc-(sLen+n))) e)):=by
 refine⟨grownCap w (sLen+n) sCap e,by simp[grownCap,Question.cut], ?_⟩
 have hn1:¬(sLen+n≤sCap):=by omega
 have hfit:=wWe (sLen+n) sCap inf.bytes hg hb1 hb2 hb3;have h48:¬(281474976710656<Builtin.nextslicecap (sLen+n) sCap*inf.bytes):=by omega
 have h63:¬(9223372036854775807<((sLen:Int)+(n:Int))):=by omega
 have hof:=ho.cells w.drew sLen (fun _=>rfl) (Qe _)
 have hnf:=hn.cells w.drew n (fun _=>rfl) (Qe _)
 rw[←ho.total,Jj]at hof;rw[←hn.total,Jj]at hnf;have hl:=hn.len w;simp[Builtin.append_,run_underlying ht,run_underlying hu,sizeOf,typeInfo,zeroValue,hi,hz,hl,hn1,h63,h48,Question.forced,hof,hnf,newRow,grownCap]
 congr 2;apply Ke;simp
end
theorem zYy(z:Array Value)(n:Nat):(Builtin.zeroCells z n).toList=(List.replicate n z.toList).flatten:=by
 induction n with
 |zero=>simp[Builtin.zeroCells]
 | succ n ih=>
  simp only[Builtin.zeroCells,Array.toList_map,Array.toList_range]at ih⊢;rw[Kg,Nat.add_comm,List.range_add,Qw,J5,Kl,We,←ih];congr 1
  ·apply List.ext_getElem
   ·simp
   ·intro i h1 h2
    simp at h1;simp[Nat.mod_eq_of_lt h1,h1]
  ·apply J4
   intro i _;simp
def wYv(P:Program)(w:World)(inf:TypeInfo)(z:Value)(d:TypeDesc)(n:Nat)(x:Value)(vs:List Value):Prop:=
 vs.length=n*inf.size∧(((∀k,d≠ .int k)∧SrcOk P w inf.size n x vs)∨
  ((∃k,d=.int k)∧(∃k,x=.int k (n:Nat))∧n≤2^40∧n*inf.bytes≤2^44∧z.cells.size=inf.size∧vs=(Builtin.zeroCells z.cells n).toList))
theorem wYv.total{inf:TypeInfo}{z:Value}{d:TypeDesc}{n:Nat}{x:Value}{vs:List Value}(h:wYv P w inf z d n x vs):vs.length=n*inf.size:=h.1
section
variable {t u e ty0:TypeId} {inf:TypeInfo} {z:Value} {d:TypeDesc} (ht:P.underlying t=some (.slice e)) (hi:P.info? e=some inf) (hz:inf.zero=some z)
 (hu:P.underlying u=some d) {x:Value} {base:Option Addr} {sLen sCap n:Nat} {olds news:List Value}
include ht hi hz hu
theorem zK2(hn:wYv P w inf z d n x news)(hroom:sLen+n≤sCap){w':World}
  (hst:∀a,base=some a→(storeCells (a.add (sLen*inf.size)) news).run P w=.ok () w') (hnone:base=none→w'=w):
  (Builtin.append_ #[t,u] ty0 #[.slice base sLen sCap,x]).run P w=.ok (.slice base (sLen+n) sCap) w':=by
 obtain⟨hl,⟨hk,hs⟩|⟨⟨k,rfl⟩,⟨k',rfl⟩,h1,h2,h3,rfl⟩⟩:=hn
 ·exact xKr ht hi hu hk hs hroom hst hnone
 ·have hw:IntKind.i64.wrap (n:Int)=n:=by unfold IntKind.wrap;simp[IntKind.bits,IntKind.signed];omega
  have hb:¬(281474976710656<(n:Int)*(inf.bytes:Int)):=by
   rw[←Int.natCast_mul];omega
  have hneg:¬((n:Int)<0):=by omega
  by_cases h0:n*inf.size=0
  ·have hnil:(Builtin.zeroCells z.cells n).toList=[]:=by
    rw[←Qr,hl,h0]
   rw[hnil]at hst;cases base with
   |none=>simp[Builtin.append_,run_underlying ht,run_underlying hu,sizeOf,typeInfo,hi,asInt,asIntOf,hw,hb,hneg,hroom,h0,hnone rfl]
   |some a=>
    have:=hst a rfl;simp[Builtin.append_,run_underlying ht,run_underlying hu,sizeOf,typeInfo,hi,asInt,asIntOf,hw,hb,hneg,hroom,h0,this]
  ·cases base with
   |none=>simp[Builtin.append_,run_underlying ht,run_underlying hu,sizeOf,typeInfo,zeroValue,hi,hz,asInt,asIntOf,hw,hb,hneg,hroom,hnone rfl]
   |some a=>simp[Builtin.append_,run_underlying ht,run_underlying hu,sizeOf,typeInfo,zeroValue,hi,hz,asInt,asIntOf,hw,hb,hneg,hroom,h0,hst a rfl]
theorem yQw(ho:SrcOk P w inf.size sLen (.slice base sLen sCap) olds)(hn:wYv P w inf z d n x news)(hg:sCap<sLen+n)(hb1:sLen+n≤2^44)
  (hb2:(sLen+n)*inf.bytes≤2^44) (hb3:inf.bytes≤2^30):
  ∃nc,sLen+n≤nc∧(Builtin.append_ #[t,u] ty0 #[.slice base sLen sCap,x]).run P w=
   .ok (.slice (some ⟨w.heap.size,0,none⟩) (sLen+n) nc) (w.drew.alloc (.cells (olds.toArray++news.toArray++Builtin.zeroCells z.cells (nc-(sLen+n))) e)):=by
 obtain⟨hl,⟨hk,hs⟩|⟨⟨k,rfl⟩,⟨k',rfl⟩,h1,h2,h3,rfl⟩⟩:=hn
 ·exact yYv ht hi hz hu hk ho hs hg hb1 hb2 hb3
 ·have hw:IntKind.i64.wrap (n:Int)=n:=by unfold IntKind.wrap;simp[IntKind.bits,IntKind.signed];omega
  have hb:¬(281474976710656<(n:Int)*(inf.bytes:Int)):=by
   rw[←Int.natCast_mul];omega
  have hneg:¬((n:Int)<0):=by omega
  refine⟨grownCap w (sLen+n) sCap e,by simp[grownCap,Question.cut], ?_⟩
  have hn1:¬(sLen+n≤sCap):=by omega
  have hfit:=wWe (sLen+n) sCap inf.bytes hg hb1 hb2 hb3;have h48:¬(281474976710656<Builtin.nextslicecap (sLen+n) sCap*inf.bytes):=by omega
  have h63:¬(9223372036854775807<((sLen:Int)+(n:Int))):=by omega
  have hof:=ho.cells w.drew sLen (fun _=>rfl) (Qe _)
  rw[←ho.total,Jj]at hof;by_cases h0:n*inf.size=0
  ·have hnil:(Builtin.zeroCells z.cells n)=#[]:=by
    apply Ke;exact Qr.1 (by rw[hl,h0])
   simp[Builtin.append_,run_underlying ht,run_underlying hu,sizeOf,typeInfo,zeroValue,hi,hz,asInt,asIntOf,hw,hb,hneg,hn1,h63,h48,Question.forced,hof,hnil,newRow,grownCap]
  ·simp[Builtin.append_,run_underlying ht,run_underlying hu,sizeOf,typeInfo,zeroValue,hi,hz,asInt,asIntOf,hw,hb,hneg,hn1,h63,h48,Question.forced,hof,h0,newRow,grownCap]
end
theorem wZs{ty:Ty}(hty:ty.Ok P)(R:Rel N φ St h w){e:TypeId}{j:TI}(hj:ty e=some j){inf:TypeInfo}{z:Value}(g1:inf.size=j.size)(g2:inf.bytes=j.bytes)
  (g3:ofVs z.cells.toList=some j.zero) (g4:j.zero.length=j.size) (g5:zYc z=j.agg) {d:TypeDesc} {x:CV} {ys:List CV} (hc:appC h j d x=some ys) {v:Value} (hx:VR φ St w x v):
  ∃vs,VRL φ St w (ys.flatMap CV.flat) vs∧wYv P w inf z d ys.length v vs∧∀y∈ys,y.flat.length=j.size:=by
 unfold appC at hc;split at hc
 ·rename_i hd
  have hd':∃k,d=.int k:=by unfold yXa at hd;split at hd<;>simp at hd;exact⟨_,rfl⟩
  split at hc<;>(try (simp at hc;done))
  rename_i k n zc hzv;split at hc<;>(try (simp at hc;done))
  rename_i hcond;obtain⟨c1,c2,c3⟩:=hcond;simp at hc;subst hc;cases hx;have hcs:=zZ9 (φ:=φ) (St:=St) (w:=w) g3;have hzl:z.cells.size=j.size:=by have:=hcs.length;rw[←Jk];omega
  have hflat:zc.flat=j.zero:=by
   unfold zeroV at hzv;split at hzv
   ·simp at hzv;subst hzv;rfl
   ·split at hzv<;>(try (simp at hzv;done))
    rename_i z0 hz0;simp at hzv;subst hzv;rw[hz0]at g3;cases hzz:z.cells.toList with
    |nil=>rw[hzz]at g3;simp[ofVs]at g3
    |cons a as=>
     rw[hzz]at g3;simp only[ofVs]at g3;split at g3<;>(try (simp at g3;done))
     rename_i ca cas ha has;simp at g3;obtain⟨rfl,rfl⟩:=g3;rw[hz0];unfold ofV1 at ha;split at ha<;>simp at ha<;>subst ha<;>rfl
  have hn:((n.toNat:Nat):Int)=n:=Int.toNat_of_nonneg c1;refine⟨(Builtin.zeroCells z.cells n.toNat).toList, ?_,⟨?_, .inr ⟨hd',⟨k, ?_⟩, ?_, ?_,by omega, ?_⟩⟩, ?_⟩
  ·rw[zYy]
   generalize n.toNat=m;induction m with
   |zero=>exact .nil
   |succ m ih=>simp only[Kl,Qo,We,hflat];rw[hflat]at *;exact hcs.append ih
  ·simp[size_zeroCells,hzl,g1]
  ·simp[hn]
  ·simp;omega
  ·simp
   have hb:n*(j.bytes:Int)≤2^44:=by rw[Int.mul_add]at c3;omega
   rw[g2];have:((n.toNat*j.bytes:Nat):Int)≤17592186044416:=by rw[Int.natCast_mul,hn];exact hb
   omega
  ·simp
  ·intro y hy
   rw[(List.mem_replicate.1 hy).2,hflat,g4]
 ·rename_i hd
  obtain⟨vs,h1,h2,h3⟩:=yJb hty R hj hc hx;refine⟨vs,h1,⟨by rw[g1];exact h2.total, .inl ⟨fun k hk=>hd (by rw[hk];rfl),by rw[g1];exact h2⟩⟩,h3⟩
theorem Rel.kill(R:Rel N φ St h w){b r base size:Nat}(hφ:φ b=some (.own r base size)):
  Rel N (φ.put b .dead) St (h.set b .dead) w∧Frm h.length φ St w (φ.put b .dead) St w:=by
 have hbl:=R.dom b _ hφ;have m:Mono φ St w (φ.put b .dead) St w:=by
  refine⟨fun b'=>?_,fun _ _ hs=>hs,fun _ _ _=>rfl⟩
  by_cases hb:b'=b
  ·subst hb;rw[zQg,hφ];exact .die _
  ·rw[zQc _ _ _ _ hb];exact .refl _
 refine⟨R.change b .dead .dead St (h.set b .dead) w m (Qe _) (by rw[Qk hbl]) (by simp) (fun b' e hne _=>by rw[Qd (Jw hne)])
  (fun _ _ _ _ _ _=>rfl) R.stLt (fun _ _ hs=>.inl hs) (fun r hr=>by simp[Ent.has]at hr) rfl, ?_⟩
 refine{toMono:=m,size:=Qe _,stNew:=fun _ _ hs=>.inl hs,blkNew:=?_,keepBlk:=fun _ _ _=>rfl,idNew:=?_,os:=rfl,output:=rfl,tape:=rfl}
 ·intro b' e r' hb he
  by_cases hbb:b'=b
  ·subst hbb;rw[zQg]at hb;simp at hb;subst hb;simp[Ent.has]at he
  ·rw[zQc _ _ _ _ hbb]at hb;exact .inl ⟨b',e,hb,he⟩
 ·intro b' hb hn
  by_cases hbb:b'=b
  ·subst hbb;rw[hφ]at hn;simp at hn
  ·rw[zQc _ _ _ _ hbb];exact hn
theorem Rel.drew(R:Rel N φ St h w):Rel N φ St h w.drew∧Mono φ St w φ St w.drew:=by
 have m:Mono φ St w φ St w.drew:=⟨fun _=>.refl _,fun _ _ h=>h,fun _ _ _=>rfl⟩
 refine⟨⟨R.dom,R.dead, ?_,R.tail, ?_,R.inj,R.stLt,R.stOwn,R.stTail,R.start,R.void,fun b rs hb=>(R.rows b rs hb).step m (fun _ _=>rfl) (fun _ _ _ h=>h),R.rdom⟩,m⟩
 ·intro b r base size hb
  obtain⟨h1,cs,arr,elem,h2,h3,h4,h5,h6⟩:=R.own b r base size hb;exact⟨h1,cs,arr,elem,h2,h3,h4,h5,fun j c hc=>let⟨v,a,b⟩:=h6 j c hc;⟨v,a,b.mono m⟩⟩
 ·intro b r hb
  obtain⟨h1,o,O,h2,h3,h4⟩:=R.obj b r hb;exact⟨h1,o,O,h2,h3,h4.mono m⟩
theorem Frm.drew(n:Nat)(φ:Phi)(St:Stab)(w:World):Frm n φ St w φ St w.drew:=
 Frm.quiet ⟨fun _=>.refl _,fun _ _ h=>h,fun _ _ _=>rfl⟩ (Qe _) (fun _ _ _=>rfl) rfl rfl rfl
end
end Go.Eng
/- The built-in append. -/
namespace Go.Eng
set_option linter.unusedVariables false
def zKz:CV→Bool
 | .sref _ _ _ _ _ _=>true
 |_=>false
def zXk (lit : Bool)(ty:Ty)(h:Heap)(t u:TypeId)(s x:CV):Option (CV×Heap):=
  match ty t,ty u with
  | some i,some iu=>
    match i.desc with
    | .slice e =>
      match ty e with
      | some j =>
        if 2^30<j.bytes then none else
        match appC h j iu.desc x,srcE h j s with
        | some ys,some xs=>
          if ys=[]∧(lit&&zKz s)=false then(match s with
            | .slice esz _ tok full=>
              if lit then(if full then(if xs=[]then some (.slice j.size (xs++ys) (some h.length) false,h++[.tail (xs.length+ys.length)])else some (s,h))
                else match tok with
                | some k=>match h[k]? with
                  |some (.tail v)=>if v=xs.length∧esz=j.size then some (.slice j.size (xs++ys) (some k) false,h.set k (.tail (xs.length+ys.length)))else none
                  |_=>none
                |none=>none)
              else some (s,h)
            | .sref _ _ _ _ _ _=>some (s,h)
            | .gref _ _ _ _ _ _=>some (s,h)
            |_=>none)
          else if 2^44<(xs.length+ys.length)*(j.bytes+1)∨!(((xs++ys).flatMap CV.flat).all CV.one)then none else
          match s with
          | .slice esz _ tok full=>
            if full then
              (if lit then some (.slice j.size (xs++ys) (some h.length) false,h++[.tail (xs.length+ys.length)])
               else some (.sref j.size h.length 0 (xs.length+ys.length) (xs.length+ys.length) false,h++[.cells ((xs++ys).flatMap CV.flat)]))
            else match tok with
              | some k=>match h[k]? with
                |some (.tail v)=>if v=xs.length∧esz=j.size then some (.slice j.size (xs++ys) (some k) false,h.set k (.tail (xs.length+ys.length)))else none
                |_=>none
              |none=>none
          | .sref _ b _ _ _ _=>
            if lit then some (.slice j.size (xs++ys) (some h.length) false,h.set b .dead++[.tail (xs.length+ys.length)])
            else some (.sref j.size h.length 0 (xs.length+ys.length) (xs.length+ys.length) false,h.set b .dead++[.cells ((xs++ys).flatMap CV.flat)])
          | .gref esz b k off len gen=>match rowG h b k gen with
            | some cs=>match h[b]? with
              |some (.rows css)=>if off=0∧esz=j.size∧0<j.size∧len*j.size=gen then
                  some (.gref j.size b k 0 (xs.length+ys.length) (gen+ys.length*j.size),h.set b (.rows (css.set k (cs++ys.flatMap CV.flat))))else none
              |_=>none
            |none=>none
          |_=>none
        |_,_=>none
      |none=>none
    |_=>none
  |_,_=>none
section
variable {P:Program} {N:Nat} {φ:Phi} {St:Stab} {h:Heap} {w:World}
theorem Rel.adopt(R:Rel N φ St h w){r base size:Nat}{arr:Array Value}{elem:TypeId×Nat×Nat}(hN:N≤r)(hw:w.heap[r]? =some (.cells arr elem.1 elem.2))(hsz:arr.size=size∧Unfz elem.2 size)
  (hno:∀b e,φ b=some e→¬e.has r) (hst:∀j,¬St r j) {cs:List CV} {vs:List Value} (hv:VRL φ St w cs vs) (hin:base+cs.length≤size)
  (hvs:∀(j:Nat) (v:Value),vs[j]?=some v→arr[base+j]?=some v):
  Rel N (φ.put h.length (.own r base size)) St (h++[.cells cs]) w∧Mono φ St w (φ.put h.length (.own r base size)) St w:=by
 have hn:=R.yJn;have m:Mono φ St w (φ.put h.length (.own r base size)) St w:=by
  refine⟨fun b=>?_,fun _ _ hs=>hs,fun _ _ _=>rfl⟩
  by_cases hb:b=h.length
  ·subst hb;rw[hn];exact .fresh _
  ·rw[zQc _ _ _ _ hb];exact .refl _
 refine⟨R.change h.length (.own r base size) (.cells cs) St (h++[.cells cs]) w m (Qe _) (by simp) (by simp)
  (fun b e hne hb=>by rw[Qb (R.dom b e hb)]) (fun _ _ _ _ _ _=>rfl) R.stLt (fun _ _ hs=>.inl hs)
  (fun r' he b e _ hb hk=>by simp[Ent.has]at he;subst he;exact hno b e hb hk) ?_,m⟩
 refine⟨hN,cs,arr,elem,rfl,hw,hsz,hin,fun j c hc=>?_,hst⟩
 obtain⟨v,h1,h2⟩:=hv.get j c hc;exact⟨v,hvs j v h1,h2.mono m⟩
theorem xK7(R:Rel N φ St h w){size n nc:Nat}{cs:List CV}{vs:List Value}(hv:VRL φ St w cs vs)(hl:vs.length=n*size)(hn:n≤nc){rest:Array Value}{e:TypeId}
  (hr:rest.size=(nc-n)*size):∃φ',Rel N φ' St (h++[.cells cs]) (w.drew.alloc (.cells (vs.toArray++rest) e))∧
   VR φ' St (w.drew.alloc (.cells (vs.toArray++rest) e)) (.sref size h.length 0 n n false) (.slice (some ⟨w.heap.size,0,none⟩) n nc)∧
   Frm h.length φ St w φ' St (w.drew.alloc (.cells (vs.toArray++rest) e)):=by
 obtain⟨Rd,md⟩:=R.drew;have hvl:=hv.length;obtain⟨R',F⟩:=vZt (elem:=e) Rd (cs:=cs) (arr:=vs.toArray++rest) (by
  have:(vs.toArray++rest).toList.take cs.length=vs:=by simp[hvl]
  rw[this];exact hv.mono md) (by simp;omega)
 refine⟨_,R', ?_,(Frm.drew _ φ St w).trans F (Qe _)⟩;refine .sref _ _ 0 n n false w.heap.size 0 _ nc (uQ8 _ _ _) hn (Qe _) (by simp) ?_
 have:n*size+(nc-n)*size=nc*size:=by rw[←Qz];congr 1;omega
 simp;omega
theorem yY8(R:Rel N φ St h w){size n nc:Nat}{xs:List CV}{vs:List Value}(hv:VRL φ St w (xs.flatMap CV.flat) vs)(hx:∀x∈xs,x.flat.length=size)(hn:xs.length=n)(hnc:n≤nc)
  {rest:Array Value} {e:TypeId} (hr:rest.size=(nc-n)*size) (k:Nat) (h':Heap)
  (hk:(k=h.length∧h'=h++[.tail n])∨(((∃u0,φ k=some (.void u0)∧u0<n)∨∃r used u sz,φ k=some (.tail r used u sz)∧u<n)∧h'=h.set k (.tail n))):
  ∃φ' St',Rel N φ' St' h' (w.drew.alloc (.cells (vs.toArray++rest) e))∧
   VR φ' St' (w.drew.alloc (.cells (vs.toArray++rest) e)) (.slice size xs (some k) false) (.slice (some ⟨w.heap.size,0,none⟩) n nc)∧
   Frm h.length φ St w φ' St' (w.drew.alloc (.cells (vs.toArray++rest) e)):=by
 subst hn;obtain⟨Rd,md⟩:=R.drew;have hvl:=hv.length;rw[zX2 _ hx]at hvl;let w':=w.drew.alloc (.cells (vs.toArray++rest) e);let St':Stab:=fun r j=>St r j∨(r=w.heap.size∧j<xs.length*size)
 let ent:Ent:=.tail w.heap.size (xs.length*size) xs.length (vs.toArray++rest).size;have hkb:k<h'.length∧h'[k]?=some (.tail xs.length)∧h.length≤h'.length∧∀b' e',b'≠k→φ b'=some e'→h'[b']?=h[b']?:=by
  rcases hk with⟨rfl,rfl⟩|⟨hk',rfl⟩
  ·exact⟨by simp,by simp,by simp,fun b' e' hne hb=>by rw[Qb (R.dom b' e' hb)]⟩
  ·have:k<h.length:=by
    rcases hk' with⟨_,hφ,_⟩|⟨r,used,u,sz,hφ,_⟩<;>exact R.dom k _ hφ
   exact⟨by simpa using this,by rw[Qk this],by simp,fun b' e' hne hb=>by rw[Qd (Jw hne)]⟩
 have m:Mono φ St w (φ.put k ent) St' w':=by
  refine⟨fun b=>?_,fun _ _ hs=>.inl hs,fun r j hs=>?_⟩
  ·by_cases hb:b=k
   ·subst hb
    rw[zQg];rcases hk with⟨rfl,_⟩|⟨⟨_,hφ,hu⟩|⟨r,used,u,sz,hφ,hu⟩,_⟩
    ·rw[R.yJn];exact .fresh _
    ·rw[hφ];exact .fill _ _ _ _ _ hu
    ·rw[hφ];exact .grow _ _ _ _ _ _ _ _ hu
   ·rw[zQc _ _ _ _ hb];exact .refl _
  ·show w'.cell? _=_
   rw[World.cell?_alloc_lt w.drew _ ⟨r,j,none⟩ (R.stLt r j hs)];rfl
 have hblk:∀b e' r,φ b=some e'→e'.has r→r<w.heap.size:=fun b e' r hb he=>(R.lt hb he).2
 have R':Rel N (φ.put k ent) St' h' w':=by
  refine R.change k ent (.tail xs.length) St' h' w' m (by simp[w']) hkb.2.1 hkb.2.2.1 hkb.2.2.2 ?_ ?_ ?_ ?_ ?_ (fun b' css hne hx=>by rcases hk with⟨rfl,rfl⟩|⟨_,rfl⟩;exact xKu hne hx;exact vWj hne hx)
  ·intro b' e' r hne hb he
   exact zX1 w.drew _ r (hblk b' e' r hb he)
  ·intro r j hs
   rcases hs with hs|⟨rfl,_⟩
   ·have:=R.stLt r j hs;simp[w'];omega
   ·simp[w']
  ·intro r j hs
   rcases hs with hs|⟨rfl,_⟩
   ·exact .inl hs
   ·exact .inr fun b' e' _ hb he=>by have:=hblk b' e' _ hb he;omega
  ·intro r he b' e' _ hb hk'
   simp[ent,Ent.has]at he;subst he;have:=hblk b' e' _ hb hk';omega
  ·refine⟨R.start,rfl,by simp;omega,⟨vs.toArray++rest,(e,(0,0)),zYt w.drew _,rfl,Unfz.zero _⟩,fun j hs=> ?_⟩
   rcases hs with hs|⟨_,hj⟩
   ·have:=R.stLt _ j hs;omega
   ·exact hj
 refine⟨φ.put k ent,St',R', ?_,{toMono:=m,size:=by simp,stNew:=?_,blkNew:=?_,keepBlk:=fun r hr _=>zX1 w.drew _ r hr,idNew:=?_,os:=rfl,output:=rfl,tape:=rfl}⟩
 ·have:=VR.slice (φ:=φ.put k ent) (St:=St') (w:=w') size xs (some k) false (some ⟨w.heap.size,0,none⟩) nc vs (.inr ⟨_,rfl,rfl,fun j v hv'=> ?_⟩) (hv.mono m) hx (by omega) (by simp) ?_
  ·exact this
  ·have hj:j<xs.length*size:=by have:=(List.getElem?_eq_some_iff.1 hv').1;omega
   simp only[Jo];refine⟨.inr ⟨rfl,hj⟩, ?_⟩;show w'.cell? ⟨w.heap.size,j,none⟩=some v;rw[cell_of_row w' w.heap.size j (vs.toArray++rest) e (0,0) (zYt w.drew _),Array.getElem?_append_left (by simp;omega)]
   simpa using hv'
  ·refine⟨by rw[zQg];simp,by rw[zQg];simp[ent],fun r used u size' he=> ?_⟩
   rw[zQg]at he;simp[ent]at he;obtain⟨rfl,rfl,rfl,rfl⟩:=he;refine⟨by omega,fun _=>⟨_,rfl,rfl,rfl,by simp, ?_⟩⟩
   have:xs.length*size+(nc-xs.length)*size=nc*size:=by rw[←Qz];congr 1;omega
   simp;omega
 ·intro r j hs
  rcases hs with hs|⟨rfl,_⟩
  ·exact .inl hs
  ·exact .inr (.inl (Qe _))
 ·intro b e' r hb he
  by_cases hbb:b=k
  ·subst hbb;rw[zQg]at hb;simp[ent]at hb;subst hb;simp[Ent.has]at he;exact .inr (by omega)
  ·rw[zQc _ _ _ _ hbb]at hb;exact .inl ⟨b,e',hb,he⟩
 ·intro b hb hn'
  by_cases hbb:b=k
  ·subst hbb
   rcases hk with⟨rfl,_⟩|⟨⟨_,hφ,hu⟩|⟨r,used,u,sz,hφ,hu⟩,_⟩
   ·omega
   ·rw[hφ]at hn';simp at hn'
   ·rw[hφ]at hn';simp at hn'
  ·rw[zQc _ _ _ _ hbb];exact hn'
theorem vQj(R:Rel N φ St h w){k r lo p size n:Nat}{arr:Array Value}{elem:TypeId×Nat×Nat}(hN:N≤r)(hw:w.heap[r]? =some (.cells arr elem.1 elem.2))(hsz':arr.size=size∧Unfz elem.2 size)
  {vs:List Value} (hone:∀v∈vs,v.oneCell'=true) (hin:p+vs.length≤size) (hlo:lo≤p) (h':Heap)
  (hno:∀b e,b≠k→φ b=some e→¬e.has r) (hst:∀j,St r j→j<p)
  (hk:(k=h.length∧h'=h++[.tail n]∧φ k=none)∨(∃u,φ k=some (.tail r p u size)∧u<n∧h'=h.set k (.tail n))):
  ∃w' φ' St',(storeCells ⟨r,p,none⟩ vs).run P w= .ok () w'∧Rel N φ' St' h' w'∧Mono φ St w φ' St' w'∧φ' k=some (.tail r (p+vs.length) n size)∧
   (∀b,b≠k→φ' b=φ b)∧(∀j,lo≤j→j<p+vs.length→St' r j)∧(∀r' j,St' r' j→St r' j∨r'=r)∧
   (∀j,w'.cell? ⟨r,j,none⟩=(zQd arr.toList p vs)[j]?)∧(∀r',r'≠r→w'.heap[r']?=w.heap[r']?)∧w'.heap.size=w.heap.size∧w'.os=w.os∧w'.output=w.output∧w'.tape=w.tape:=by
 obtain⟨hsz,hz⟩:=hsz';have hrun:=zWz P r p elem.1 elem.2 vs 0 arr w hw (by omega) hone (by rw[hsz];exact hz)
 simp only[Ks]at hrun;let arr':Array Value:=(zQd arr.toList p vs).toArray;have harr':(arr.toList.take p++vs++arr.toList.drop (p+vs.length)).toArray=arr':=rfl
 rw[harr']at hrun;let w':=w.setRow r arr';let St':Stab:=fun r' j=>St r' j∨(r'=r∧lo≤j∧j<p+vs.length)
 let ent:Ent:=.tail r (p+vs.length) n size;have hl':arr'.size=size:=by
  show(zQd arr.toList p vs).toArray.size=size;rw[Kj,zWa _ _ _ (by simp;omega)];simpa using hsz
 have hother:∀r',r'≠r→w'.heap[r']?=w.heap[r']?:=fun r' hr=>setRow_other w r r' _ hr
 have hcell:∀j,w'.cell? ⟨r,j,none⟩=(zQd arr.toList p vs)[j]?:=by
  intro j;rw[cell_of_row w' r j arr' elem.1 elem.2 (setRow_heap w r arr arr' elem.1 elem.2 hw)];show(zQd arr.toList p vs).toArray[j]?=_;simp
 have hrl:r<w.heap.size:=(Array.getElem?_eq_some_iff.1 hw).1;have m:Mono φ St w (φ.put k ent) St' w':=by
  refine⟨fun b=>?_,fun _ _ hs=>.inl hs,fun r' j hs=>?_⟩
  ·by_cases hb:b=k
   ·subst hb
    rw[zQg];rcases hk with⟨rfl,_,hn⟩|⟨u,hφ,hu,_⟩
    ·rw[hn];exact .fresh _
    ·rw[hφ];exact .grow _ _ _ _ _ _ _ _ hu
   ·rw[zQc _ _ _ _ hb];exact .refl _
  ·by_cases hr:r'=r
   ·subst hr
    have:=hst j hs;rw[hcell,zWl _ _ _ (by simp;omega),Qf this,cell_of_row w r' j arr elem.1 elem.2 hw];simp
   ·exact cell_setRow_other w r _ ⟨r',j,none⟩ hr
 have hkb:h'[k]?=some (.tail n)∧h.length≤h'.length∧∀b' e',b'≠k→φ b'=some e'→h'[b']?=h[b']?:=by
  rcases hk with⟨rfl,rfl,_⟩|⟨u,hφ,_,rfl⟩
  ·exact⟨by simp,by simp,fun b' e' hne hb=>by rw[Qb (R.dom b' e' hb)]⟩
  ·have:=R.dom k _ hφ
   exact⟨by rw[Qk this],by simp,fun b' e' hne hb=>by rw[Qd (Jw hne)]⟩
 have hsize:w'.heap.size=w.heap.size:=by simp[w']
 refine⟨w',φ.put k ent,St',hrun, ?_,m,zQg _ _ _,fun b hb=>zQc _ _ _ _ hb,fun j h1 h2=>.inr ⟨rfl,h1,h2⟩,fun r' j hs=>hs.imp id (·.1),hcell,hother,hsize,rfl,rfl,rfl⟩
 refine R.change k ent (.tail n) St' h' w' m (by omega) hkb.1 hkb.2.1 hkb.2.2 ?_ ?_ ?_ ?_ ?_ (fun b' css hne hx=>by rcases hk with⟨rfl,rfl,_⟩|⟨u,hφ,_,rfl⟩;exact xKu hne hx;exact vWj hne hx)
 ·intro b' e' r' hne hb he
  exact hother r' (fun e=>hno b' e' hne hb (e▸he))
 ·intro r' j hs
  rw[hsize];rcases hs with hs|⟨rfl,_⟩
  ·exact R.stLt r' j hs
  ·exact hrl
 ·intro r' j hs
  rcases hs with hs|⟨rfl,_⟩
  ·exact .inl hs
  ·exact .inr fun b' e' hne hb=>hno b' e' hne hb
 ·intro r' he b' e' hne hb
  simp[ent,Ent.has]at he;subst he;exact hno b' e' hne hb
 ·refine⟨hN,rfl,by omega,⟨arr',elem,setRow_heap w r arr arr' elem.1 elem.2 hw,hl',hz⟩,fun j hs=> ?_⟩
  rcases hs with hs|⟨_,_,hj⟩
  ·have:=hst j hs;omega
  ·exact hj
end
end Go.Eng
/- append is as the model's. -/
namespace Go.Eng
set_option linter.unusedVariables false
section
variable {P:Program} {N:Nat} {φ:Phi} {St:Stab} {h:Heap} {w:World}
theorem vQi(R:Rel N φ St h w){k u:Nat}(hk:h[k]?=some (.tail u))(hn:φ k≠none):φ k=some (.void u)∨∃r used size,φ k=some (.tail r used u size):=by
 cases hφ:φ k with
 |none=>exact absurd hφ hn
 |some e=>
  cases e with
  |own r base size=>obtain⟨_,cs,_,_,hc,_⟩:=R.own k r base size hφ;rw[hk]at hc;simp at hc
  |tail r used u' size=>obtain⟨_,hc,_⟩:=R.tail k r used u' size hφ;rw[hk]at hc;simp at hc;subst hc;exact .inr ⟨r,used,size,rfl⟩
  |obj r=>obtain⟨_,o,O,hc,_,ho⟩:=R.obj k r hφ;rw[hk]at hc;simp at hc;subst hc;cases ho
  |rows rs=>obtain⟨css,h1,_⟩:=R.rows k rs hφ;rw[hk]at h1;simp at h1
  |void u'=>have:=(R.void k u' hφ).1;rw[hk]at this;simp at this;subst this;exact .inl rfl
  |dead=>have:=R.dead k hφ;rw[hk]at this;simp at this
theorem Rel.outside(R:Rel N φ St h w){r:Nat}{arr arr':Array Value}{elem:TypeId×Nat×Nat}(hw:w.heap[r]? =some (.cells arr elem.1 elem.2))
  (hno:∀b e,φ b=some e→¬e.has r) (hst:∀j,¬St r j):Rel N φ St h (w.setRow r arr')∧Mono φ St w φ St (w.setRow r arr'):=by
 have hother:∀r',r'≠r→(w.setRow r arr').heap[r']?=w.heap[r']?:=fun r' hr=>setRow_other w r r' _ hr
 have m:Mono φ St w φ St (w.setRow r arr'):=⟨fun _=>.refl _,fun _ _ h=>h,fun r' j hs=>cell_setRow_other w r _ ⟨r',j,none⟩ (fun e=>hst j (e▸hs))⟩
 refine⟨⟨R.dom,R.dead, ?_, ?_, ?_,R.inj, ?_,R.stOwn,R.stTail,by simpa using R.start,R.void,fun b rs hb=>(R.rows b rs hb).step m (fun r' hr=>hother r' (fun x=>hno b _ hb (x▸hr))) (fun _ _ _ h=>h),R.rdom⟩,m⟩
 ·intro b r' base size hb
  obtain⟨h1,cs,a,e,h2,h3,h4,h5,h6⟩:=R.own b r' base size hb;exact⟨h1,cs,a,e,h2,by rw[hother r' (fun x=>hno b _ hb (x▸rfl))];exact h3,h4,h5,fun j c hc=>let⟨v,a,b⟩:=h6 j c hc;⟨v,a,b.mono m⟩⟩
 ·intro k r' used u size hb
  obtain⟨h1,h2,h3,a,e,h4,h5⟩:=R.tail k r' used u size hb;exact⟨h1,h2,h3,a,e,by rw[hother r' (fun x=>hno k _ hb (x▸rfl))];exact h4,h5⟩
 ·intro b r' hb
  obtain⟨h1,o,O,h2,h3,h4⟩:=R.obj b r' hb;exact⟨h1,o,O,h2,by rw[hother r' (fun x=>hno b _ hb (x▸rfl))];exact h3,h4.mono m⟩
 ·intro r' j hs;simpa using R.stLt r' j hs
theorem Rel.xQ6(R:Rel N φ St h w)(u:Nat)(hu:u=0):Rel N (φ.push h.length (.void u)) St (h++[.tail u]) w∧Frm h.length φ St w (φ.push h.length (.void u)) St w:=by
 have m:Mono φ St w (φ.push h.length (.void u)) St w:=by
  refine⟨fun b=>?_,fun _ _ hs=>hs,fun _ _ _=>rfl⟩
  unfold Phi.push;split
  ·subst_vars;rw[R.yJn];exact .fresh _
  ·exact .refl _
 refine⟨?_, ?_⟩
 ·have:=R.change h.length (.void u) (.tail u) St (h++[.tail u]) w m (Qe _) (by simp) (by simp) (fun b' e hne hb'=>by rw[Qb (R.dom b' e hb')])
   (fun _ _ _ _ _ _=>rfl) R.stLt (fun _ _ hs=>.inl hs) (fun r hr=>by simp[Ent.has]at hr) ⟨rfl,hu⟩
  exact this
 ·refine{toMono:=m,size:=Qe _,stNew:=fun _ _ hs=> .inl hs,blkNew:=fun b e r hb he=> ?_,keepBlk:=fun _ _ _=>rfl,idNew:=fun b hb hn=> ?_,os:=rfl,output:=rfl,tape:=rfl}
  ·unfold Phi.push at hb
   split at hb
   ·simp at hb;subst hb;simp[Ent.has]at he
   ·exact .inl ⟨b,e,hb,he⟩
  ·unfold Phi.push;rw[Qi (by omega)];exact hn
theorem zK9{t u e ty0:TypeId}{inf:TypeInfo}{z:Value}{d:TypeDesc}(ht:P.underlying t=some (.slice e))(hi:P.info? e=some inf)(hz:inf.zero=some z)
  (hu:P.underlying u=some d) {x:Value} {base:Option Addr} {sLen sCap:Nat} (hn:wYv P w inf z d 0 x []) (hle:sLen≤sCap):
  (Builtin.append_ #[t,u] ty0 #[.slice base sLen sCap,x]).run P w=.ok (.slice base sLen sCap) w:=
 zK2 (w':=w) ht hi hz hu hn (by omega) (fun a _=>rfl) (fun _=>rfl)
variable {ty:Ty} (hty:ty.Ok P) (R:Rel N φ St h w)
include hty R
theorem xZ5{lit:Bool}{t u t0:TypeId}{s x c:CV}{h':Heap}(hc:zXk lit ty h t u s x=some (c,h')){vs vx:Value}(hs:VR φ St w s vs)(hx:VR φ St w x vx):
  OpOk P N φ St h w (Builtin.append_ #[t,u] t0 #[vs,vx]) c h':=by
 unfold zXk at hc;split at hc<;>(try (simp at hc;done))
 rename_i i iu hti htu;have hut:=(hty _ _ hti).und;have huu:=(hty _ _ htu).und;split at hc<;>(try (simp at hc;done))
 rename_i e hd;rw[hd]at hut;split at hc<;>(try (simp at hc;done))
 rename_i j hj;obtain⟨inf,z,g1,g2,g3,g4,g5,g6,_,g8⟩:=(hty e j hj).info;split at hc<;>(try (simp at hc;done))
 rename_i hcond;have hby:inf.bytes≤2^30:=by omega
 split at hc<;>(try (simp at hc;done))
 rename_i ys xs hys hxs;obtain⟨nvs,hnv,hns,hnsz⟩:=wZs hty R hj g2 g3 g5 g6 g8 hys hx;obtain⟨ovs,hov,hos,hosz⟩:=yJb hty R hj hxs hs;rw[←g2]at hos;have hzs:z.cells.size=inf.size:=by
  have:=(zZ9 (φ:=φ) (St:=St) (w:=w) g5).length;rw[←Jk];omega
 split at hc
 ·-- nothing is appended
  rename_i hye;obtain⟨hye,hlit⟩:=hye;subst hye;cases hnv;split at hc<;>(try (simp at hc;done))
  ·rename_i esz xs0 tok full
   have hxs0:xs0=xs∧(esz=j.size∨xs=[]):=by
    simp only[srcE]at hxs;split at hxs
    ·rename_i hh;simp at hxs;subst hxs;exact⟨rfl,hh⟩
    ·simp at hxs
   obtain⟨rfl,hesz⟩:=hxs0;have hs':=hs;cases hs with|slice _ _ _ _ a cap vs hat hvs hsz hcap hfull htok=>
   split at hc
   ·have hszj:∀x∈xs0,x.flat.length=j.size:=by
     rcases hesz with rfl|rfl
     ·exact hsz
     ·simp
    split at hc
    ·rename_i hf
     split at hc
     ·rename_i hx0
      simp at hc;obtain⟨rfl,rfl⟩:=hc;have⟨R1,F1⟩:=R.xQ6 xs0.length (by rw[hx0];rfl)
      refine⟨_,w,_,St,zK9 hut g1 g4 huu hns hcap,R1, ?_,F1⟩;exact .slice j.size xs0 (some h.length) false a cap vs hat (hvs.mono F1.toMono) hszj hcap (by simp)
       ⟨by simp[Phi.push],fun u hu=>by simp[Phi.push]at hu;exact⟨by omega,fun _=>hfull hf⟩,by simp[Phi.push]⟩
     ·simp at hc;obtain⟨rfl,rfl⟩:=hc
      exact OpOk.pure R (zK9 hut g1 g4 huu hns hcap) hs'
    ·split at hc<;>(try (simp at hc;done))
     rename_i k;split at hc<;>(try (simp at hc;done))
     rename_i v0 hkk;split at hc<;>(try (simp at hc;done))
     rename_i hv0;obtain⟨rfl,rfl⟩:=hv0;simp at hc;obtain⟨rfl,rfl⟩:=hc;have hset:h.set k (.tail xs0.length)=h:=by
      apply Jy;intro i;by_cases hi:i=k
      ·subst hi;rw[Qk (List.getElem?_eq_some_iff.1 hkk).1,hkk]
      ·rw[Qd (Jw hi)]
     rw[hset];exact OpOk.pure R (zK9 hut g1 g4 huu hns hcap) (.slice j.size xs0 (some k) false a cap vs hat hvs hsz hcap (by simp) htok)
   ·simp at hc;obtain⟨rfl,rfl⟩:=hc
    exact OpOk.pure R (zK9 hut g1 g4 huu hns hcap) hs'
  ·rename_i esz b off len cap ex
   simp at hc;obtain⟨rfl,rfl⟩:=hc;have hs':=hs;have hlive:live h b=true:=by
    simp only[srcE]at hxs;split at hxs<;>(try (simp at hxs;done))
    rename_i cs hb;simp[live,hb]
   obtain⟨r,base,size,rcap,hφ,rfl,k1,k2,k3,k4⟩:=zQn R hs hlive;exact OpOk.pure R (zK9 hut g1 g4 huu hns (by omega)) hs'
  ·rename_i esz b k off len gen
   simp at hc;obtain⟨rfl,rfl⟩:=hc;have hs':=hs;simp only[srcE]at hxs;split at hxs<;>(try (simp at hxs;done))
   rename_i cs hb;obtain⟨rs,row,a,cap,hφ,hr,rfl,hcap,ho,hu',hg⟩:=zW9 R hs hb;exact OpOk.pure R (zK9 hut g1 g4 huu hns hcap) hs'
 rename_i hyne;split at hc<;>(try (simp at hc;done))
 rename_i hcond2;have hbig:(xs.length+ys.length)*(j.bytes+1)≤2^44:=by
  rcases Nat.lt_or_ge (2^44) ((xs.length+ys.length)*(j.bytes+1))with h1|h1
  ·exact absurd (.inl h1) hcond2
  ·exact h1
 have hone:((xs++ys).flatMap CV.flat).all CV.one=true:=by
  revert hcond2;cases((xs++ys).flatMap CV.flat).all CV.one<;>simp
 rw[Nat.mul_add,Wf]at hbig;have hylen:ys=[]→(lit=true∧zKz s=true):=fun e=>by
  cases hb:(lit&&zKz s)with
  |false=>exact absurd ⟨e,hb⟩ hyne
  |true=>simpa using hb
 have hylen':zKz s=false→0<ys.length:=fun e=>List.length_pos_iff.2 fun h=>by have:=(hylen h).2;rw[e]at this;simp at this
 have hallsz:∀y∈xs++ys,y.flat.length=j.size:=by
  intro y hy;rcases Qy.1 hy with hy|hy
  ·exact hosz y hy
  ·exact hnsz y hy
 have hall:VRL φ St w ((xs++ys).flatMap CV.flat) (ovs++nvs):=by rw[Kb];exact hov.append hnv
 have hallen:(ovs++nvs).length=(xs.length+ys.length)*j.size:=by
  rw[Q5,hos.total,hns.total,←Qz,g2]
 have hrestsz:∀nc,(Builtin.zeroCells z.cells (nc-(xs.length+ys.length))).size=(nc-(xs.length+ys.length))*j.size:=by
  intro nc;rw[size_zeroCells,hzs,g2]
 have hnone:∀v∈nvs,v.oneCell'=true:=hnv.one (by
  intro c hc';rw[Qq]at hone;exact hone c (by rw[Kb];exact Qy.2 (.inr hc')))
 have grow:∀base sCap,sCap<xs.length+ys.length→vs= .slice base xs.length sCap→∃nc,xs.length+ys.length≤nc∧(Builtin.append_ #[t,u] t0 #[vs,vx]).run P w=
   .ok (.slice (some ⟨w.heap.size,0,none⟩) (xs.length+ys.length) nc) (w.drew.alloc (.cells ((ovs++nvs).toArray++Builtin.zeroCells z.cells (nc-(xs.length+ys.length))) e)):=by
  intro base sCap hg hvs;subst hvs;obtain⟨nc,a1,a2⟩:=yQw (ty0:=t0) hut g1 g4 huu hos hns hg (by omega) (by rw[g3];omega) hby
  exact⟨nc,a1,by rw[a2];simp⟩
 split at hc<;>(try (simp at hc;done))
 ·-- a slice that is not written
  rename_i esz xs0 tok full;have hxs0:xs0=xs∧(esz=j.size∨xs=[]):=by
   simp only[srcE]at hxs;split at hxs
   ·rename_i hh;simp at hxs;subst hxs;exact⟨rfl,hh⟩
   ·simp at hxs
  obtain⟨rfl,hesz⟩:=hxs0;have hylen:=hylen' rfl;cases hs with|slice _ _ _ _ a cap vs0 hat hvs0 hsz hcap hfull htok=>
  split at hc
  ·rename_i hf
   obtain⟨nc,n1,hrun⟩:=grow a cap (by have:=hfull hf;omega) rfl
   split at hc
   ·simp at hc;obtain⟨rfl,rfl⟩:=hc
    obtain⟨φ',St',R',V',F'⟩:=yY8 R (n:=xs0.length+ys.length) (nc:=nc) (e:=e) hall hallsz (by simp) n1 (hrestsz nc) h.length (h++[.tail (xs0.length+ys.length)]) (.inl ⟨rfl,rfl⟩)
    exact⟨_,_,φ',St',hrun,R',V',F'⟩
   ·simp at hc;obtain⟨rfl,rfl⟩:=hc
    obtain⟨φ',R',V',F'⟩:=xK7 R (size:=j.size) (n:=xs0.length+ys.length) (nc:=nc) (e:=e) hall hallen n1 (hrestsz nc);refine⟨_,_,φ',St,hrun, ?_,V',F'⟩;simpa[Kb]using R'
  ·split at hc<;>(try (simp at hc;done))
   rename_i k;split at hc<;>(try (simp at hc;done))
   rename_i v0 hkk;split at hc<;>(try (simp at hc;done))
   rename_i hv0;obtain⟨rfl,rfl⟩:=hv0;simp at hc;obtain⟨rfl,rfl⟩:=hc;obtain⟨tn,tv,tk⟩:=htok;rcases vQi R hkk tn with hφ|⟨r,used,size,hφ⟩
   ·have hcap0:=(tv _ hφ).2 rfl
    obtain⟨nc,n1,hrun⟩:=grow a cap (by omega) rfl
    obtain⟨φ',St',R',V',F'⟩:=yY8 R (n:=xs0.length+ys.length) (nc:=nc) (e:=e) hall hallsz (by simp) n1 (hrestsz nc) k (h.set k (.tail (xs0.length+ys.length)))
     (.inr ⟨.inl ⟨_,hφ,by omega⟩,rfl⟩)
    exact⟨_,_,φ',St',hrun,R',V',F'⟩
   obtain⟨_,tk⟩:=tk r used _ size hφ;obtain⟨a',rfl,ha1,ha2,ha3,ha4⟩:=tk rfl;by_cases hroom:xs0.length+ys.length≤cap
   ·obtain⟨hN,_,hu2,arr,elem,hw,hsz2⟩:=R.tail k r used _ size hφ
    have hnl:nvs.length=ys.length*j.size:=by rw[hns.total,g2]
    have hcapm:(xs0.length+ys.length)*j.size≤cap*j.size:=Qn _ hroom;rw[Qz]at hcapm;obtain⟨w',φ',St',hst,R',m,hφ',hφo,hSt',hStn,hcell,hoth,hwsz,ho1,ho2,ho3⟩:=vQj (P:=P) R (k:=k) (r:=r) (lo:=used) (p:=used) (n:=xs0.length+ys.length)
     hN hw hsz2 hnone (by omega) (Qe _) (h.set k (.tail (xs0.length+ys.length)))
     (fun b e' hne hb he=>hne (R.inj b k e' _ r hb hφ he rfl)) (fun j' hs'=>R.stTail k r used _ size j' hφ hs') (.inr ⟨_,hφ,by omega,rfl⟩)
    have hadd:a'.add (xs0.length*inf.size)=⟨r,used,none⟩:=by rw[wZt a' ha1,ha2,g2,ha3]
    have hrun:=zK2 (ty0:=t0) (base:=some a') (sLen:=xs0.length) (sCap:=cap) hut g1 g4 huu hns hroom (w':=w') (fun a'' ha''=>by simp at ha'';subst ha'';rw[hadd];exact hst) (by simp)
    refine⟨_,_,φ',St',hrun,R', ?_,{toMono:=m,size:=by omega,stNew:=?_,blkNew:=?_,keepBlk:=?_,idNew:=?_,os:=ho1,output:=ho2,tape:=ho3}⟩
    ·have hatold:xs0=[]∨At St' w' a' vs0:=by
      rcases hat with h1|⟨a1,h1,h2⟩
      ·exact .inl h1
      ·simp at h1;subst h1;exact .inr (h2.mono m)
     have hvl:=hvs0.length;rw[zX2 _ hsz]at hvl;have hnew:∀(i:Nat) (v:Value),nvs[i]?=some v→St' r (used+i)∧w'.cell? ⟨r,used+i,none⟩=some v:=by
      intro i v hv;have hi:i<nvs.length:=(List.getElem?_eq_some_iff.1 hv).1;refine⟨hSt' _ (by omega) (by omega), ?_⟩
      rw[hcell,zWl _ _ _ (by simp;omega),Qi (by omega),Qf (by omega),show used+i-used=i by omega];exact hv
     have hat':At St' w' a' (vs0++nvs):=by
      refine⟨ha1,fun i v hv=>?_⟩
      rw[Kn]at hv;split at hv
      ·rename_i hi
       rcases hatold with h1|h1
       ·subst h1;simp at hvl;omega
       ·exact h1.2 i v hv
      ·rename_i hi
       have:=hnew _ v hv;rw[ha2,show a'.off+i=used+(i-vs0.length) by omega];exact this
     have:=VR.slice (φ:=φ') (St:=St') (w:=w') j.size (xs0++ys) (some k) false (some a') cap (vs0++nvs) (.inr ⟨a',rfl,hat'⟩)
      (by rw[Kb];exact(hvs0.mono m).append (hnv.mono m)) hallsz (by simpa using hroom) (by simp) ?_
     ·simpa using this
     ·refine⟨by rw[hφ'];simp,by rw[hφ'];simp,fun r0 used0 u0 size0 he=> ?_⟩
      rw[hφ']at he;simp at he;obtain⟨rfl,rfl,rfl,rfl⟩:=he;refine⟨by simp,fun _=>⟨a',rfl,ha1,ha2, ?_,ha4⟩⟩
      simp[Qz];omega
    ·intro r' j' hs'
     rcases hStn r' j' hs' with h1|rfl
     ·exact .inl h1
     ·exact .inr (.inr ⟨k,_,hφ,rfl⟩)
    ·intro b e' r' hb he
     by_cases hbk:b=k
     ·subst hbk;rw[hφ']at hb;simp at hb;subst hb;simp[Ent.has]at he;subst he;exact .inl ⟨b,_,hφ,rfl⟩
     ·rw[hφo b hbk]at hb;exact .inl ⟨b,e',hb,he⟩
    ·intro r' hr hno
     exact hoth r' (fun e'=>hno k _ hφ (e'▸rfl))
    ·intro b hb hn
     by_cases hbk:b=k
     ·subst hbk;rw[hφ]at hn;simp at hn
     ·rw[hφo b hbk];exact hn
   ·obtain⟨nc,n1,hrun⟩:=grow (some a') cap (by omega) rfl
    obtain⟨φ',St',R',V',F'⟩:=yY8 R (n:=xs0.length+ys.length) (nc:=nc) (e:=e) hall hallsz (by simp) n1 (hrestsz nc) k (h.set k (.tail (xs0.length+ys.length)))
     (.inr ⟨.inr ⟨r,used,_,size,hφ,by omega⟩,rfl⟩)
    exact⟨_,_,φ',St',hrun,R',V',F'⟩
 ·-- a slice of own cells
  rename_i esz b off len cap ex;have hsr:∃cs,h[b]?=some (.cells cs)∧esz=j.size∧off+len*esz≤cs.length∧xs.length=len:=by
   simp only[srcE]at hxs;split at hxs<;>(try (simp at hxs;done))
   rename_i cs hb;split at hxs<;>(try (simp at hxs;done))
   rename_i hh;simp at hxs;exact⟨cs,hb,hh.1,hh.2.1,by rw[←hxs,zXr]⟩
  obtain⟨cs,hb,rfl,hle,rfl⟩:=hsr;obtain⟨r,base,size,rcap,hφ,rfl,k1,k2,k3,k4⟩:=zQn R hs (by simp[live,hb])
  obtain⟨R1,F1⟩:=R.kill hφ;have hall1:=hall.mono F1.toMono;have hno1:∀b' e',(φ.put b .dead) b'=some e'→¬e'.has r:=by
   intro b' e' hb' he;by_cases hbb:b'=b
   ·subst hbb;rw[zQg]at hb';simp at hb';subst hb';simp[Ent.has]at he
   ·rw[zQc _ _ _ _ hbb]at hb';exact hbb (R.inj b' b e' _ r hb' hφ he rfl)
  have hlen1:(h.set b HObj.dead).length=h.length:=by simp
  by_cases hroom:xs.length+ys.length≤rcap
  ·obtain⟨hN,cs',arr,elem,hcs,hw,⟨hasz,hz⟩,hin,hvals⟩:=R.own b r base size hφ
   rw[hb]at hcs;simp at hcs;subst hcs;have hnl:nvs.length=ys.length*j.size:=by rw[hns.total,g2]
   have hol:ovs.length=xs.length*j.size:=by rw[hos.total,g2]
   have hcapm:(xs.length+ys.length)*j.size≤rcap*j.size:=Qn _ hroom;rw[Qz]at hcapm;have hp:(⟨r,base+off,none⟩:Addr).add (xs.length*inf.size)=⟨r,base+off+xs.length*j.size,none⟩:=by rw[zKw,g2]
   have holds:∀(i:Nat) (v:Value),ovs[i]?=some v→arr[base+off+i]?=some v:=by
    intro i v hv;have hi:i<ovs.length:=(List.getElem?_eq_some_iff.1 hv).1;have hfc:=hos.cells w xs.length (fun _=>rfl) (Qe _)
    have hlc:(loadCells ⟨r,base+off,none⟩ (xs.length*inf.size)).run P w=.ok ((List.range (xs.length*inf.size)).map fun i=>arr.getD (base+off+i) default).toArray w:=by
     refine run_loadCells w ⟨r,base+off,none⟩ _ (fun i=>arr.getD (base+off+i) default) fun i hi=>?_
     rw[zKw,cell_of_row w r _ arr elem.1 elem.2 hw];have:base+off+i<arr.size:=by rw[g2]at hi;omega
     simp[Array.getD,this]
    simp only[Builtin.firstCells]at hfc;rw[hlc]at hfc;simp only[Result.ok.injEq,and_true]at hfc;have h2:=Kr Array.toList hfc;simp only at h2;rw[←hos.total,Jj]at h2
    have h3:ovs[i]?=(List.map (fun i=>arr.getD (base+off+i) default) (List.range ovs.length))[i]?:=by rw[h2]
    rw[hv]at h3;have hba:base+off+i<arr.size:=by omega
    simp[hi,Array.getD,hba]at h3;rw[Array.getElem?_eq_getElem hba,h3]
   split at hc
   ·-- not written from now on
    simp at hc;obtain⟨rfl,rfl⟩:=hc;obtain⟨w',φ',St',hst,R',m,hφ',hφo,hSt',hStn,hcell,hoth,hwsz,ho1,ho2,ho3⟩:=vQj (P:=P) R1 (k:=h.length) (r:=r) (lo:=base+off) (p:=base+off+xs.length*j.size) (n:=xs.length+ys.length)
     hN hw ⟨hasz,hz⟩ hnone (by omega) (by omega) (h.set b .dead++[.tail (xs.length+ys.length)])
     (fun b' e' _ hb'=>hno1 b' e' hb') (fun j' hs'=>absurd hs' (R.stOwn b r base size j' hφ)) (.inl ⟨by simp,rfl,by have:=R1.yJn;rwa [hlen1]at this⟩)
    have hrun:=zK2 (ty0:=t0) (base:=some ⟨r,base+off,none⟩) (sLen:=xs.length) (sCap:=rcap) hut g1 g4 huu hns hroom (w':=w') (fun a'' ha''=>by simp at ha'';subst ha'';rw[hp];exact hst) (by simp)
    have F2:Frm (h.set b .dead).length (φ.put b .dead) St w φ' St' w'→True:=fun _=>trivial
    refine⟨_,_,φ',St',hrun,R', ?_,{toMono:=F1.toMono.trans m,size:=by omega,stNew:=?_,blkNew:=?_,keepBlk:=?_,idNew:=?_,os:=ho1,output:=ho2,tape:=ho3}⟩
    ·have hat':At St' w' ⟨r,base+off,none⟩ (ovs++nvs):=by
      refine⟨rfl,fun i v hv=>?_⟩
      have hi:i<(ovs++nvs).length:=(List.getElem?_eq_some_iff.1 hv).1;rw[Q5]at hi;refine⟨hSt' _ (by simp) (by simp;omega), ?_⟩
      show w'.cell? ⟨r,base+off+i,none⟩=some v;rw[hcell,zWl _ _ _ (by simp;omega)]
      rw[Kn]at hv;by_cases hi2:i<ovs.length
      ·rw[Qf hi2]at hv
       rw[Qf (by omega)]
       simpa using holds i v hv
      ·rw[Qi hi2]at hv
       rw[Qi (by omega),Qf (by omega),show base+off+i-(base+off+xs.length*j.size)=i-ovs.length by omega];exact hv
     have:=VR.slice (φ:=φ') (St:=St') (w:=w') j.size (xs++ys) (some h.length) false (some ⟨r,base+off,none⟩) rcap (ovs++nvs) (.inr ⟨_,rfl,hat'⟩)
      (hall1.mono m) hallsz (by simpa using hroom) (by simp) ?_
     ·simpa using this
     ·refine⟨by rw[hφ'];simp,by rw[hφ'];simp,fun r0 used0 u0 size0 he=> ?_⟩
      rw[hφ']at he;simp at he;obtain⟨rfl,rfl,rfl,rfl⟩:=he;refine⟨by simp,fun _=>⟨_,rfl,rfl,rfl, ?_,k4⟩⟩
      simp[Qz];omega
    ·intro r' j' hs'
     rcases hStn r' j' hs' with h1|rfl
     ·exact .inl h1
     ·exact .inr (.inr ⟨b,_,hφ,rfl⟩)
    ·intro b' e' r' hb' he
     by_cases hbk:b'=h.length
     ·subst hbk;rw[hφ']at hb';simp at hb';subst hb';simp[Ent.has]at he;subst he;exact .inl ⟨b,_,hφ,rfl⟩
     ·rw[hφo b' hbk]at hb'
      exact F1.blkNew b' e' r' hb' he
    ·intro r' hr hno
     exact hoth r' (fun e'=>hno b _ hφ (e'▸rfl))
    ·intro b' hb' hn
     rw[hφo b' (by omega)]
     exact F1.idNew b' hb' hn
   ·-- written
    simp at hc;obtain⟨rfl,rfl⟩:=hc;have hrs:=zWz P r (base+off+xs.length*j.size) elem.1 elem.2 nvs 0 arr w hw (by omega) hnone (by rw[hasz];exact hz)
    simp only[Ks]at hrs;generalize harr':(arr.toList.take (base+off+xs.length*j.size)++nvs++arr.toList.drop (base+off+xs.length*j.size+nvs.length)).toArray=arr' at hrs
    have harl:∀i:Nat,arr'[i]?=(zQd arr.toList (base+off+xs.length*j.size) nvs)[i]?:=by intro i;rw[←harr'];simp[zQd]
    have harz:arr'.size=size:=by
     rw[←harr'];have:=zWa arr.toList (base+off+xs.length*j.size) nvs (by simp;omega)
     simp only[zQd]at this;rw[Kj,this];simpa using hasz
    obtain⟨R2,m2⟩:=R1.outside (arr':=arr') hw hno1 (fun j' hs'=>R.stOwn b r base size j' hφ hs')
    obtain⟨R3,m3⟩:=R2.adopt (base:=base+off) hN (setRow_heap w r arr arr' elem.1 elem.2 hw) ⟨harz,hz⟩ hno1 (fun j' hs'=>R.stOwn b r base size j' hφ hs') (hall1.mono m2)
     (by rw[zX2 _ hallsz];simp[Qz];omega) (fun i v hv=>by
      have hi:i<(ovs++nvs).length:=(List.getElem?_eq_some_iff.1 hv).1;rw[Q5]at hi;rw[harl,zWl _ _ _ (by simp;omega)]
      rw[Kn]at hv;by_cases hi2:i<ovs.length
      ·rw[Qf hi2]at hv
       rw[Qf (by omega)]
       simpa using holds i v hv
      ·rw[Qi hi2]at hv
       rw[Qi (by omega),Qf (by omega),show base+off+i-(base+off+xs.length*j.size)=i-ovs.length by omega];exact hv)
    have hrun:=zK2 (ty0:=t0) (base:=some ⟨r,base+off,none⟩) (sLen:=xs.length) (sCap:=rcap) hut g1 g4 huu hns hroom (w':=w.setRow r arr') (fun a'' ha''=>by simp at ha'';subst ha'';rw[hp];exact hrs) (by simp)
    rw[hlen1]at R3 m3;refine⟨_,_,_,St,hrun,by simpa[Kb]using R3, ?_,{toMono:=(F1.toMono.trans m2).trans m3,size:=by simp,stNew:=fun _ _ hs'=>.inl hs',blkNew:=?_,keepBlk:=?_,idNew:=?_,os:=rfl,output:=rfl,tape:=rfl}⟩
    ·exact .sref _ _ 0 _ _ false r (base+off) size rcap (zQg _ _ _) hroom (Qe _) (by simp) (by omega)
    ·intro b' e' r' hb' he
     by_cases hbk:b'=h.length
     ·subst hbk;rw[zQg]at hb';simp at hb';subst hb';simp[Ent.has]at he;subst he;exact .inl ⟨b,_,hφ,rfl⟩
     ·rw[zQc _ _ _ _ hbk]at hb'
      exact F1.blkNew b' e' r' hb' he
    ·intro r' hr hno
     exact setRow_other w r r' _ (fun e'=>hno b _ hφ (e'▸rfl))
    ·intro b' hb' hn
     rw[zQc _ _ _ _ (by omega)]
     exact F1.idNew b' hb' hn
  ·obtain⟨nc,n1,hrun⟩:=grow (some ⟨r,base+off,none⟩) rcap (by omega) rfl
   split at hc
   ·simp at hc;obtain⟨rfl,rfl⟩:=hc
    obtain⟨φ',St',R',V',F'⟩:=yY8 R1 (n:=xs.length+ys.length) (nc:=nc) (e:=e) hall1 hallsz (by simp) n1 (hrestsz nc) (h.set b .dead).length (h.set b .dead++[.tail (xs.length+ys.length)]) (.inl ⟨rfl,rfl⟩)
    rw[hlen1]at V' F';exact⟨_,_,φ',St',hrun,R',V',F1.trans F' (Qe _)⟩
   ·simp at hc;obtain⟨rfl,rfl⟩:=hc
    obtain⟨φ',R',V',F'⟩:=xK7 R1 (size:=j.size) (n:=xs.length+ys.length) (nc:=nc) (e:=e) hall1 hallen n1 (hrestsz nc);rw[hlen1]at V' F';refine⟨_,_,φ',St,hrun,by simpa[Kb]using R',V',F1.trans F' (Qe _)⟩
 ·-- a row that may grow
  rename_i esz b k off len gen;split at hc<;>(try (simp at hc;done))
  rename_i cs hlive;split at hc<;>(try (simp at hc;done))
  rename_i css hb;split at hc<;>(try (simp at hc;done))
  rename_i hcd;obtain⟨rfl,rfl,hsz0,hgen⟩:=hcd;simp only[Qa,Je]at hc;obtain⟨rfl,rfl⟩:=hc;obtain⟨rs,row,a,cap,hφ,hr,rfl,hcap,ho,hu',hg⟩:=zW9 R hs hlive;obtain⟨css',hb',hk,hcl⟩:=zJf hlive
  rw[hb]at hb';simp at hb';subst hb';have hxl:xs.length=len∧xs.flatMap CV.flat=cs:=by
   simp only[srcE,hlive]at hxs;split at hxs<;>(try (simp at hxs;done))
   rename_i hh;simp at hxs;subst hxs;have hl2:((cs.drop 0).take (len*j.size)).length=len*j.size:=by simp;omega
   obtain⟨q1,q2⟩:=zYi (hty e j hj).one len ((cs.drop 0).take (len*j.size)) (by omega) hh.2.2
   refine⟨zXr _ _, ?_⟩;rw[←Jt (l:=cs),q1,Q9 (by omega),Q9 (by simp;omega)]
  obtain⟨rfl,hxc⟩:=hxl;have hnl:nvs.length=ys.length*j.size:=by rw[hns.total,g2]
  have hyfl:(ys.flatMap CV.flat).length=ys.length*j.size:=by rw[hnv.length,hnl]
  have hylen2:0<ys.length:=hylen' rfl;have hypos:0<ys.length*j.size:=Nat.mul_pos hylen2 hsz0;have hrows:=R.rows b rs hφ;rw[hb]at hrows;have hkl:k<rs.length:=(List.getElem?_eq_some_iff.1 hr).1
  have hval:∀(φ':Phi) (w':World) (row':Row) (a':Option Addr) (cap':Nat),row'.u=gen+ys.length*j.size→GOk row' a' j.size 0 cap'→xs.length+ys.length≤cap'→
    VR (φ.put b (.rows (rs.set k row'))) St w' (.gref j.size b k 0 (xs.length+ys.length) (gen+ys.length*j.size)) (.slice a' (xs.length+ys.length) cap'):=by
   intro φ' w' row' a' cap' h1 h2 h3;refine .gref _ _ _ _ _ _ (rs.set k row') a' cap' (zQg _ _ _) h3 (.inr ⟨by simpa using hkl,fun row2 hr2=>?_⟩)
   rw[Qk hkl]at hr2;simp at hr2;subst hr2;exact⟨by omega,fun _=>h2⟩
  by_cases hroom:xs.length+ys.length≤cap
  ·have hg:GOk row a j.size 0 cap:=by
    rcases hg with h1|h1
    ·omega
    ·exact h1
   unfold GOk at hg;split at hg
   ·rename_i r base lim hbk
    obtain⟨rfl,hle⟩:=hg;have hcapm:(xs.length+ys.length)*j.size≤cap*j.size:=Qn _ hroom;rw[Qz]at hcapm;have ho':=ho;obtain⟨o1,o2,o3⟩:=ho;obtain⟨hN,o4,⟨arr,elem,hw,hz,hasz,hvals⟩,hns2⟩:=o3 r base lim hbk
    have hrs:=zWz P r (base+gen) elem.1 elem.2 nvs 0 arr w hw (by omega) hnone hz
    simp only[Ks]at hrs;generalize harr':(arr.toList.take (base+gen)++nvs++arr.toList.drop (base+gen+nvs.length)).toArray=arr' at hrs;have harl:∀i:Nat,arr'[i]?=(zQd arr.toList (base+gen) nvs)[i]?:=by intro i;rw[←harr'];simp[zQd]
    have harz:arr'.size=arr.size:=by
     rw[←harr'];have:=zWa arr.toList (base+gen) nvs (by simp;omega)
     simp only[zQd]at this;rw[Kj,this];simp
    have hhas:(Ent.rows rs).has r:=⟨row,Ql hr,base,lim,hbk⟩;have hother:∀k,k≠r→(w.setRow r arr').heap[k]?=w.heap[k]?:=fun k hk=>setRow_other w r k _ hk
    obtain⟨R',F'⟩:=R.rowTo hφ hb hr {blk:=row.blk,u:=gen+ys.length*j.size} (cs++ys.flatMap CV.flat) (w':=w.setRow r arr') (by simp;omega) (by simp)
     (fun r' j' hs'=>cell_setRow_other w r _ ⟨r',j',none⟩ (fun e=>hns2 j' (e▸hs')))
     (fun b' e' r' hne hb' he=>hother r' (fun e'=>hne (R.inj b' b _ _ r hb' hφ (e'▸he) hhas)))
     (fun k' row2 r2 base2 lim2 hne hr2 hb2=>by
      have hdis:r2=r→base2+lim2≤base∨base+lim≤base2:=by
       intro e;subst e;obtain⟨_,_,_,_,h4⟩:=hrows;exact h4 k' k row2 row r2 base2 lim2 base lim hne hr2 hr hb2 hbk
      refine⟨?_,fun r3 base3 lim3 hb3 e=>?_⟩
      ·by_cases e:r2=r
       ·subst e
        intro arr2 e2 fz2 hw2;rw[hw]at hw2;simp at hw2;obtain⟨rfl,rfl,rfl⟩:=hw2;refine⟨arr',setRow_heap w r2 arr arr' elem.1 elem.2 hw,harz,fun j' hj'=>?_⟩
        rw[harl,zWl _ _ _ (by simp;omega)]
        rcases hdis rfl with d|d
        ·rw[Qf (by omega)];simp
        ·rw[Qi (by omega),Qi (by omega)];simp
       ·exact zJp.same (hother r2 e)
      ·simp[hbk]at hb3;obtain⟨rfl,rfl,rfl⟩:=hb3
       exact hdis e)
     (fun r' base' lim' hb'=>.inl (by simp[hbk]at hb';obtain⟨rfl,rfl,rfl⟩:=hb';exact hhas))
     (fun m=>by
      refine⟨by simp[hyfl,hcl],fun e=>by simp[hbk]at e,fun r1 base1 lim1 hb1=>?_⟩
      simp[hbk]at hb1;obtain⟨rfl,rfl,rfl⟩:=hb1;refine⟨hN,by simp;omega,⟨arr',elem,setRow_heap w r arr arr' elem.1 elem.2 hw,by rw[harz];exact hz,by omega,fun i c hc=>?_⟩,hns2⟩
      rw[harl,zWl _ _ _ (by simp;omega)]
      rw[Kn]at hc;by_cases c1:i<cs.length
      ·rw[Qf c1]at hc
       rw[Qf (by omega)]
       obtain⟨v,hv',hr'⟩:=hvals i c hc;exact⟨v,by simpa using hv',hr'.mono m⟩
      ·rw[Qi c1]at hc
       have hi:i-cs.length<(ys.flatMap CV.flat).length:=(List.getElem?_eq_some_iff.1 hc).1;rw[Qi (by omega),Qf (by omega)]
       obtain⟨v,hv',hr'⟩:=hnv.get _ c hc;exact⟨v,by rw[show base+i-(base+gen)=i-cs.length by omega];exact hv',hr'.mono m⟩)
     (fun k hk hn=>hother k fun e=>hn b _ hφ (by rw[e];exact hhas)) rfl rfl rfl
    have hrun:=zK2 (ty0:=t0) (base:=some ⟨r,base+0,none⟩) (sLen:=xs.length) (sCap:=cap) hut g1 g4 huu hns hroom (w':=w.setRow r arr') (fun a'' ha''=>by
     simp at ha'';subst ha'';rw[zKw,g2,hgen];exact hrs) (by simp)
    exact⟨_,_,_,St,hrun,R',hval φ _ _ _ _ rfl (by unfold GOk;simp only[hbk];exact⟨trivial,hle⟩) hroom,F'⟩
   ·omega
  ·obtain⟨nc,n1,hrun⟩:=grow a cap (by omega) rfl
   obtain⟨Rd,md⟩:=R.drew;have hcapm:(xs.length+ys.length)*j.size≤nc*j.size:=Qn _ n1;rw[Qz]at hcapm;have hol:ovs.length=xs.length*j.size:=by rw[hos.total,g2]
   have hsplit:xs.length*j.size+ys.length*j.size+(nc-(xs.length+ys.length))*j.size=nc*j.size:=by rw[←Qz,←Qz];congr 1;omega
   have hallen':(ovs++nvs).length=xs.length*j.size+ys.length*j.size:=by rw[hallen,Qz]
   obtain⟨R',F'⟩:=Rd.rowTo hφ hb hr {blk:=some (w.heap.size,0,nc*j.size),u:=gen+ys.length*j.size} (cs++ys.flatMap CV.flat)
    (w':=w.drew.alloc (.cells ((ovs++nvs).toArray++Builtin.zeroCells z.cells (nc-(xs.length+ys.length))) e)) (by simp;omega) (by simp)
    (fun r' j' hs'=>World.cell?_alloc_lt w.drew _ ⟨r',j',none⟩ (R.stLt r' j' hs'))
    (fun b' e' r' hne hb' he=>zX1 w.drew _ r' (R.lt hb' he).2)
    (fun k' row2 r2 base2 lim2 hne hr2 hb2=>by
     have h2:(Ent.rows rs).has r2:=⟨row2,Ql hr2,base2,lim2,hb2⟩;have h3:=(R.lt hφ h2).2;refine⟨zJp.same (zX1 w.drew _ r2 h3),fun r3 base3 lim3 hb3 e=>?_⟩
     simp at hb3;omega)
    (fun r' base' lim' hb'=>.inr (by simp at hb';show w.heap.size≤r';omega))
    (fun m=>by
     refine⟨by simp[hyfl,hcl],fun e=>by simp at e,fun r1 base1 lim1 hb1=>?_⟩
     simp at hb1;obtain⟨rfl,rfl,rfl⟩:=hb1;refine⟨R.start,by simp;omega,⟨(ovs++nvs).toArray++Builtin.zeroCells z.cells (nc-(xs.length+ys.length)),(e,(0,0)),zYt w.drew _,Unfz.zero _,by simp only[Array.size_append,hrestsz,Kj,hallen'];omega,fun i c hc=>?_⟩,fun j' hs'=>by have:=R.stLt _ j' hs';omega⟩
     rw[←hxc,←Kb]at hc;obtain⟨v,hv',hr'⟩:=hall.get i c hc;have hi:i<(ovs++nvs).length:=(List.getElem?_eq_some_iff.1 hv').1;refine⟨v, ?_,(hr'.mono md).mono m⟩
     rw[Jo,Array.getElem?_append_left (by simpa using hi)]
     simpa using hv')
    (fun r' hr' hn=>zX1 w.drew _ r' hr') rfl rfl rfl
   refine⟨_,_,_,St,hrun,R',hval φ _ _ _ _ rfl (by unfold GOk;simp) n1,((Frm.drew _ φ St w).trans F' (Qe _))⟩
end
theorem Rel.setCell{N:Nat}{φ:Phi}{St:Stab}{H:Heap}{w:World}(R:Rel N φ St H w){k j r base size:Nat}{cs:List CV}{cv':CV}(hk:H[k]? =some (.cells cs))(hφ:φ k=some (.own r base size))
  (hcell:∀(arr:Array Value) (elem:TypeId×Nat×Nat) (v:Value),w.heap[r]?=some (.cells arr elem.1 elem.2)→arr[base+j]?=some v→VR φ St w cv' v):Rel N φ St (H.set k (.cells (cs.set j cv'))) w:=by
 have hlt:k<H.length:=(List.getElem?_eq_some_iff.1 hk).1;have hold:∀b,b≠k→(H.set k (.cells (cs.set j cv')))[b]?=H[b]?:=fun b hb=>Qd (Jw hb)
 have hat:(H.set k (.cells (cs.set j cv')))[k]?=some (.cells (cs.set j cv')):=Qk hlt;refine⟨fun b e hb=>by rw[Kh];exact R.dom b e hb, ?_, ?_, ?_, ?_,R.inj,R.stLt,R.stOwn,R.stTail,R.start, ?_, ?_, ?_⟩
 ·intro b hb
  by_cases h:b=k
  ·subst h;rw[hφ]at hb;simp at hb
  ·rw[hold b h];exact R.dead b hb
 ·intro b r' base' size' hb
  obtain⟨h1,cs0,a,e,h2,h3,h4,h5,h6⟩:=R.own b r' base' size' hb;by_cases h:b=k
  ·subst h
   rw[hφ]at hb;simp only[Qa,Ent.own.injEq]at hb;obtain⟨rfl,rfl,rfl⟩:=hb;rw[hk]at h2;simp at h2;subst h2;refine⟨h1,_,a,e,hat,h3,h4,by simpa using h5,fun i c hc=>?_⟩
   by_cases hi:i=j
   ·subst hi
    have hil:i<cs.length:=by have:=(List.getElem?_eq_some_iff.1 hc).1;simpa using this
    rw[Qk hil]at hc;simp at hc;subst hc;obtain⟨v,e1,e2⟩:=h6 i cs[i] (Qm hil);exact⟨v,e1,hcell a e v h3 e1⟩
   ·rw[Qd (Jw hi)]at hc
    exact h6 i c hc
  ·exact⟨h1,cs0,a,e,by rw[hold b h];exact h2,h3,h4,h5,h6⟩
 ·intro k' r' used u size' hb
  obtain⟨h1,h2,h3⟩:=R.tail k' r' used u size' hb;by_cases h:k'=k
  ·subst h;rw[hφ]at hb;simp at hb
  ·exact⟨h1,by rw[hold k' h];exact h2,h3⟩
 ·intro b r' hb
  obtain⟨h1,o,O,h2,h3,h4⟩:=R.obj b r' hb;by_cases h:b=k
  ·subst h;rw[hφ]at hb;simp at hb
  ·exact⟨h1,o,O,by rw[hold b h];exact h2,h3,h4⟩
 ·intro k' u hb
  by_cases h:k'=k
  ·subst h;rw[hφ]at hb;simp at hb
  ·rw[hold k' h];exact R.void k' u hb
 ·intro b rs hb
  have hne:b≠k:=by rintro rfl;rw[hφ]at hb;simp at hb
  rw[hold b hne];exact R.rows b rs hb
 ·intro b css hx
  by_cases h:b=k
  ·subst h;rw[hat]at hx;simp at hx
  ·rw[hold b h]at hx;exact R.rdom b css hx
def frz1(b j:Nat)(h:Heap):Option Heap:=
 match h[b]? with
 | some (.cells cs)=>match cs[j]? with
  |some (.sref esz b1 off len cap ex)=>match h[b1]? with
   |some (.cells bs)=>if b1≠b∧esz=1∧off+len≤bs.length∧bs.all CV.one=true then some ((h.set b1 .dead).set b (.cells (cs.set j (.slice 1 ((bs.drop off).take len) none false))))else none
   |_=>none
  |some (.slice 0 [] none true)=>some (h.set b (.cells (cs.set j (.slice 1 [] none false))))
  |_=>some h
 |_=>none
def frzN(b:Nat):List Nat→Heap→Option Heap
 |[],h=>some h
 |j::js,h=>match frz1 b j h with
  |some h'=>frzN b js h'
  |none=>none
def xK8(h:Heap)(x:CV):Option (Nat×Nat):=
 match x with
 | .sref _ b _ _ _ _=>match h[b]? with
  |some (.cells cs)=>if cs.any zKz=true then some (b,cs.length)else none
  |_=>none
 |_=>none
def zYk(lit:Bool)(ty:Ty)(h:Heap)(t u:TypeId)(s x:CV):Option (CV×Heap):=
 match xK8 h x with
 |some (b,n)=>match frzN b (List.range n) h with
  |some h'=>zXk lit ty h' t u s x
  |none=>none
 |none=>zXk lit ty h t u s x
section
variable {N:Nat} {φ:Phi} {St:Stab} {H:Heap} {w:World}
theorem yZx:∀{cs:List CV},cs.all CV.one=true→cs.flatMap CV.flat=cs
 |[],_=>rfl
 |c::cs,h=>by
  simp only[J7,Qc]at h;rw[Qo,yZx h.2];cases c<;>first|rfl|simp[CV.one]at h
def yY1(N:Nat)(φ:Phi)(St:Stab)(H:Heap)(w:World)(H':Heap)(φ':Phi)(St':Stab):Prop:=
 Rel N φ' St' H' w∧Frm H.length φ St w φ' St' w∧H'.length=H.length∧(∀b,φ b=none→H'[b]?=H[b]?)
theorem yY1.trans{H1 H2:Heap}{φ1 φ2:Phi}{St1 St2:Stab}(a:yY1 N φ St H w H1 φ1 St1)(b:yY1 N φ1 St1 H1 w H2 φ2 St2):yY1 N φ St H w H2 φ2 St2:=by
 obtain⟨a1,a2,a3,a4⟩:=a;obtain⟨b1,b2,b3,b4⟩:=b;refine⟨b1,a2.trans b2 (by omega),by omega,fun b hb=>?_⟩
 by_cases hl:b<H.length
 ·rw[b4 b (a2.idNew b hl hb),a4 b hb]
 ·rw[J2 (by omega),J2 (by omega)]
theorem yY1.refl(R:Rel N φ St H w):yY1 N φ St H w H φ St:=⟨R,Frm.refl _ _ _ _,rfl,fun _ _=>rfl⟩
theorem Rel.uXc{k j b r base size off len cap:Nat}{ex:Bool}{cs bs:List CV}(R:Rel N φ St H w)(hφ:φ k=some (.own r base size))(hk:H[k]? =some (.cells cs))
  (hj:cs[j]?=some (.sref 1 b off len cap ex)) (hb:H[b]?=some (.cells bs)) (hbk:b≠k) (hle:off+len≤bs.length) (hone:bs.all CV.one=true):
  ∃φ' St',yY1 N φ St H w ((H.set b .dead).set k (.cells (cs.set j (.slice 1 ((bs.drop off).take len) none false)))) φ' St'∧φ' k=some (.own r base size):=by
 obtain⟨_,cs0,arr0,elem0,h2,h3,_,_,h6⟩:=R.own k r base size hφ;rw[hk]at h2;simp at h2;subst h2;obtain⟨v',e1,e2⟩:=h6 j _ hj;obtain⟨r0,base0,size0,rcap,hφ0,rfl,k1,k2,k3,k4⟩:=zQn R e2 (by simp[live,hb])
 obtain⟨vs,hvs,hvl,hcell⟩:=R.cells hφ0 hb off len hle;have hbl:=R.dom b _ hφ0;have hlt:k<H.length:=(List.getElem?_eq_some_iff.1 hk).1;let St':Stab:=fun r1 j1=>St r1 j1∨(r1=r0∧base0+off≤j1∧j1<base0+off+len)
 have m:Mono φ St w (φ.put b .dead) St' w:=by
  refine⟨fun b'=>?_,fun _ _ hs=>.inl hs,fun _ _ _=>rfl⟩
  by_cases hb':b'=b
  ·subst hb';rw[zQg,hφ0];exact .die _
  ·rw[zQc _ _ _ _ hb'];exact .refl _
 have R1:Rel N (φ.put b .dead) St' (H.set b .dead) w:=by
  refine R.change b .dead .dead St' (H.set b .dead) w m (Qe _) (by rw[Qk hbl]) (by simp) (fun b' e hne _=>by rw[Qd (Jw hne)])
   (fun _ _ _ _ _ _=>rfl) ?_ ?_ (fun r hr=>by simp[Ent.has]at hr) rfl
  ·rintro r1 j1 (hs|⟨rfl,_,_⟩)
   ·exact R.stLt _ _ hs
   ·exact(R.lt hφ0 rfl).2
  ·rintro r1 j1 (hs|⟨rfl,_,_⟩)
   ·exact .inl hs
   ·exact .inr fun b' e hne hb' he=>hne (R.inj b' b e _ _ hb' hφ0 he rfl)
 have F1:Frm H.length φ St w (φ.put b .dead) St' w:=by
  refine{toMono:=m,size:=Qe _,stNew:=?_,blkNew:=?_,keepBlk:=fun _ _ _=>rfl,idNew:=?_,os:=rfl,output:=rfl,tape:=rfl}
  ·rintro r1 j1 (hs|⟨rfl,_,_⟩)
   ·exact .inl hs
   ·exact .inr (.inr ⟨b,_,hφ0,rfl⟩)
  ·intro b' e r' hb' he
   by_cases hbb:b'=b
   ·subst hbb;rw[zQg]at hb';simp at hb';subst hb';simp[Ent.has]at he
   ·rw[zQc _ _ _ _ hbb]at hb';exact .inl ⟨b',e,hb',he⟩
  ·intro b' hb' hn
   by_cases hbb:b'=b
   ·subst hbb;rw[hφ0]at hn;simp at hn
   ·rw[zQc _ _ _ _ hbb];exact hn
 have hφ1:(φ.put b .dead) k=some (.own r base size):=by rw[zQc _ _ _ _ (Jw hbk),hφ]
 refine⟨φ.put b .dead,St',⟨?_,F1,by simp,fun b' hn=>by
  rw[Qd (by rintro rfl;rw[hφ]at hn;simp at hn),Qd (by rintro rfl;rw[hφ0]at hn;simp at hn)]⟩,hφ1⟩
 refine R1.setCell (by rw[Qd hbk];exact hk) hφ1 fun arr elem v hw hv=>?_
 rw[hw]at h3;simp only[Qa,Obj.cells.injEq]at h3;obtain⟨rfl,_⟩:=h3;rw[hv]at e1;simp at e1;subst e1;have hxone:((bs.drop off).take len).all CV.one=true:=by
  rw[Qq]at hone⊢;exact fun x hx=>hone x (Kv (Kk hx))
 have hxl:((bs.drop off).take len).length=len:=by simp;omega
 have:=VR.slice (φ:=φ.put b .dead) (St:=St') (w:=w) 1 ((bs.drop off).take len) none false (some ⟨r0,base0+off*1,none⟩) rcap vs (.inr ⟨_,rfl,rfl,fun k' u hu=>⟨.inr ⟨rfl,by simp, ?_⟩,by rw[Wf];exact hcell k' u hu⟩⟩)
  (by rw[yZx hxone];exact hvs.mono m) (fun x hx=>by
   have:=Qq.1 hxone x hx;cases x<;>first|rfl|simp[CV.one]at this) (by rw[hxl];omega) (by simp) trivial
 ·rw[hxl,Wf]at this;exact this
 ·have h1:=(List.getElem?_eq_some_iff.1 hu).1
  simp only;omega
theorem Rel.uXb{b off len cap:Nat}{ex:Bool}{bs:List CV}{v':Value}(R:Rel N φ St H w)(e2:VR φ St w (.sref 1 b off len cap ex) v')(hb:H[b]? =some (.cells bs))(hle:off+len≤bs.length)(hone:bs.all CV.one=true):
  ∃φ' St',yY1 N φ St H w (H.set b .dead) φ' St'∧VR φ' St' w (.slice 1 ((bs.drop off).take len) none false) v':=by
 obtain⟨r0,base0,size0,rcap,hφ0,rfl,k1,k2,k3,k4⟩:=zQn R e2 (by simp[live,hb])
 obtain⟨vs,hvs,hvl,hcell⟩:=R.cells hφ0 hb off len hle;have hbl:=R.dom b _ hφ0;let St':Stab:=fun r1 j1=>St r1 j1∨(r1=r0∧base0+off≤j1∧j1<base0+off+len)
 have m:Mono φ St w (φ.put b .dead) St' w:=by
  refine⟨fun b'=>?_,fun _ _ hs=>.inl hs,fun _ _ _=>rfl⟩
  by_cases hb':b'=b
  ·subst hb';rw[zQg,hφ0];exact .die _
  ·rw[zQc _ _ _ _ hb'];exact .refl _
 have R1:Rel N (φ.put b .dead) St' (H.set b .dead) w:=by
  refine R.change b .dead .dead St' (H.set b .dead) w m (Qe _) (by rw[Qk hbl]) (by simp) (fun b' e hne _=>by rw[Qd (Jw hne)])
   (fun _ _ _ _ _ _=>rfl) ?_ ?_ (fun r hr=>by simp[Ent.has]at hr) rfl
  ·rintro r1 j1 (hs|⟨rfl,_,_⟩)
   ·exact R.stLt _ _ hs
   ·exact(R.lt hφ0 rfl).2
  ·rintro r1 j1 (hs|⟨rfl,_,_⟩)
   ·exact .inl hs
   ·exact .inr fun b' e hne hb' he=>hne (R.inj b' b e _ _ hb' hφ0 he rfl)
 have F1:Frm H.length φ St w (φ.put b .dead) St' w:=by
  refine{toMono:=m,size:=Qe _,stNew:=?_,blkNew:=?_,keepBlk:=fun _ _ _=>rfl,idNew:=?_,os:=rfl,output:=rfl,tape:=rfl}
  ·rintro r1 j1 (hs|⟨rfl,_,_⟩)
   ·exact .inl hs
   ·exact .inr (.inr ⟨b,_,hφ0,rfl⟩)
  ·intro b' e r' hb' he
   by_cases hbb:b'=b
   ·subst hbb;rw[zQg]at hb';simp at hb';subst hb';simp[Ent.has]at he
   ·rw[zQc _ _ _ _ hbb]at hb';exact .inl ⟨b',e,hb',he⟩
  ·intro b' hb' hn
   by_cases hbb:b'=b
   ·subst hbb;rw[hφ0]at hn;simp at hn
   ·rw[zQc _ _ _ _ hbb];exact hn
 refine⟨φ.put b .dead,St',⟨R1,F1,by simp,fun b' hn=>by
  rw[Qd (by rintro rfl;rw[hφ0]at hn;simp at hn)]⟩, ?_⟩
 have hxone:((bs.drop off).take len).all CV.one=true:=by
  rw[Qq]at hone⊢;exact fun x hx=>hone x (Kv (Kk hx))
 have hxl:((bs.drop off).take len).length=len:=by simp;omega
 have:=VR.slice (φ:=φ.put b .dead) (St:=St') (w:=w) 1 ((bs.drop off).take len) none false (some ⟨r0,base0+off*1,none⟩) rcap vs (.inr ⟨_,rfl,rfl,fun k' u hu=>⟨.inr ⟨rfl,by simp, ?_⟩,by rw[Wf];exact hcell k' u hu⟩⟩)
  (by rw[yZx hxone];exact hvs.mono m) (fun x hx=>by
   have:=Qq.1 hxone x hx;cases x<;>first|rfl|simp[CV.one]at this) (by rw[hxl];omega) (by simp) trivial
 ·rw[hxl,Wf]at this;exact this
 ·have h1:=(List.getElem?_eq_some_iff.1 hu).1
  simp only;omega
def zY6(ty:Ty)(h:Heap)(t:TypeId)(x v:CV):Option Heap:=
 match x,v with
 | .gptr _ _ _ _, .sref esz b1 off len _ _=>match h[b1]? with
  |some (.cells bs)=>if esz=1∧off+len≤bs.length∧bs.all CV.one=true then zJd ty (h.set b1 .dead) t x (.slice 1 ((bs.drop off).take len) none false)else none
  |_=>none
 |_,_=>zJd ty h t x v
theorem vQm{P:Program}{ty:Ty}(hty:ty.Ok P)(R:Rel N φ St H w){t:TypeId}{x c:CV}{h':Heap}(hc:zY6 ty H t x c=some h'){v vc:Value}(hx:VR φ St w x v)(hv:VR φ St w c vc):
  ∃w' φ' St',(Instr.storeAt t v vc).run P w=.ok () w'∧Rel N φ' St' h' w'∧Frm H.length φ St w φ' St' w':=by
 unfold zY6 at hc;split at hc
 ·split at hc<;>(try (simp at hc;done))
  rename_i bs hb;split at hc<;>(try (simp at hc;done))
  rename_i hcond;obtain⟨rfl,c2,c3⟩:=hcond;obtain⟨φ1,St1,⟨f1,f2,f3,f4⟩,f5⟩:=R.uXb hv hb c2 c3;obtain⟨w',h1,h2,h3⟩:=xYv hty f1 hc (hx.mono f2.toMono) f5;exact⟨w',φ1,St1,h1,h2,f2.trans h3 (by omega)⟩
 ·obtain⟨w',h1,h2,h3⟩:=xYv hty R hc hx hv
  exact⟨w',φ,St,h1,h2,h3⟩
theorem xQq{ty:Ty}{t:TypeId}{x c:CV}{h':Heap}(hc:zJd ty H t x c=some h'){v:Value}(hx:VR φ St w x v):h'.length=H.length∧∀b,φ b=none→h'[b]?=H[b]?:=by
 have key:∀{b:Nat} {o:HObj},(φ b≠none)→(H.set b o).length=H.length∧∀b',φ b'=none→(H.set b o)[b']?=H[b']?:=
  fun{b o} hb=>⟨by simp,fun b' hn=>Qd (by rintro rfl;exact hb hn)⟩
 unfold zJd at hc;split at hc<;>(try (simp at hc;done))
 ·split at hc<;>(try (simp at hc;done))
  split at hc<;>(try (simp at hc;done))
  simp at hc;subst hc;refine key ?_;cases hx with
  |ptr _ _ _ _ _ h=>rw[h];simp
  |ptrDead _ _ _ h=>rw[h];simp
 ·split at hc<;>(try (simp at hc;done))
  split at hc<;>(try (simp at hc;done))
  split at hc<;>(try (simp at hc;done))
  simp at hc;subst hc;refine key ?_;cases hx with
  |gptr _ _ _ _ _ _ h=>rw[h];simp
  |gptrDead _ _ _ _ _ h=>rw[h];simp
theorem wWy{ty:Ty}{t:TypeId}{x c:CV}{h':Heap}(hc:zY6 ty H t x c=some h'){v vc:Value}(hx:VR φ St w x v)(hv:VR φ St w c vc):h'.length=H.length∧∀b,φ b=none→h'[b]?=H[b]?:=by
 unfold zY6 at hc;split at hc
 ·rename_i b k off gen esz b1 off1 len cap ex
  split at hc<;>(try (simp at hc;done))
  split at hc<;>(try (simp at hc;done))
  obtain⟨k1,k2⟩:=xQq hc hx;have hb1:φ b1≠none:=by
   cases hv with
   |sref _ _ _ _ _ _ _ _ _ _ h=>rw[h];simp
   |srefDead _ _ _ _ _ _ _ _ h=>rw[h];simp
  exact⟨by rw[k1];simp,fun b' hn=>(k2 b' hn).trans (Qd (by rintro rfl;exact hb1 hn))⟩
 ·exact xQq hc hx
theorem uW9{b j:Nat}{H':Heap}(R:Rel N φ St H w)(he:frz1 b j H=some H'){r base size:Nat}(hφ:φ b=some (.own r base size)):
  ∃φ' St',yY1 N φ St H w H' φ' St'∧φ' b=some (.own r base size):=by
 unfold frz1 at he;split at he<;>(try (simp at he;done))
 rename_i cs hb;split at he
 ·rename_i esz b1 off len cap ex hj
  split at he<;>(try (simp at he;done))
  rename_i bs hb1;split at he<;>(try (simp at he;done))
  rename_i hcond;obtain⟨c1,rfl,c3,c4⟩:=hcond;simp only[Qa]at he;subst he;exact R.uXc hφ hb hj hb1 c1 c3 c4
 ·rename_i hj
  simp only[Qa]at he;subst he;obtain⟨_,cs0,arr0,elem0,h2,h3,_,_,h6⟩:=R.own b r base size hφ;rw[hb]at h2;simp at h2;subst h2;obtain⟨v',e1,e2⟩:=h6 j _ hj;refine⟨φ,St,⟨R.setCell hb hφ fun arr elem v hw hv=>?_,Frm.refl _ _ _ _,by simp,fun b' hn=>Qd (by rintro rfl;rw[hφ]at hn;simp at hn)⟩,hφ⟩
  rw[hw]at h3;simp only[Qa,Obj.cells.injEq]at h3;obtain⟨rfl,_⟩:=h3;rw[hv]at e1;simp at e1;subst e1;cases e2 with|slice _ _ _ _ a cap vs hat hvs hsz hcap hfull htok=>exact .slice _ _ _ _ _ _ vs (.inl rfl) hvs (by simp) hcap (fun h=>by simp at h) trivial
 ·simp only[Qa]at he;subst he
  exact⟨φ,St,yY1.refl R,hφ⟩
theorem wX8{b:Nat}{H':Heap}{r base size:Nat}:∀(js:List Nat) {φ:Phi} {St:Stab} {H:Heap},Rel N φ St H w→frzN b js H=some H'→φ b=some (.own r base size)→
  ∃φ' St',yY1 N φ St H w H' φ' St'∧φ' b=some (.own r base size)
 |[],φ,St,H,R,he,hφ=>by simp only[frzN,Qa]at he;subst he;exact⟨φ,St,yY1.refl R,hφ⟩
 |j::js,φ,St,H,R,he,hφ=>by
  simp only[frzN]at he;split at he<;>(try (simp at he;done))
  rename_i H1 h1;obtain⟨φ1,St1,f1,g1⟩:=uW9 R h1 hφ;obtain⟨φ2,St2,f2,g2⟩:=wX8 js f1.1 he g1;exact⟨φ2,St2,f1.trans f2,g2⟩
theorem wK2{x:CV}{v:Value}{b n:Nat}(R:Rel N φ St H w)(hn:xK8 H x=some (b,n))(hx:VR φ St w x v):∃r base size,φ b=some (.own r base size):=by
 unfold xK8 at hn;split at hn<;>(try (simp at hn;done))
 rename_i esz b0 off len cap ex;split at hn<;>(try (simp at hn;done))
 rename_i cs hb;split at hn<;>simp at hn;obtain⟨rfl,rfl⟩:=hn;obtain⟨r,base,size,rcap,hφ,_⟩:=zQn R hx (by simp[live,hb])
 exact⟨r,base,size,hφ⟩
theorem yJ4{P:Program}{ty:Ty}(hty:ty.Ok P)(R:Rel N φ St H w){lit:Bool}{t u t0:TypeId}{s x c:CV}{h':Heap}(hc:zYk lit ty H t u s x=some (c,h')){vs vx:Value}(hs:VR φ St w s vs)(hx:VR φ St w x vx):
  OpOk P N φ St H w (Builtin.append_ #[t,u] t0 #[vs,vx]) c h':=by
 unfold zYk at hc;split at hc
 ·rename_i b n hn
  split at hc<;>(try (simp at hc;done))
  rename_i H1 h1;obtain⟨r,base,size,hφ⟩:=wK2 R hn hx;obtain⟨φ1,St1,⟨f1,f2,f3,f4⟩,_⟩:=wX8 _ R h1 hφ;obtain⟨v,w',φ2,St2,a1,a2,a3,a4⟩:=xZ5 (t0:=t0) hty f1 hc (hs.mono f2.toMono) (hx.mono f2.toMono)
  exact⟨v,w',φ2,St2,a1,a2,a3,f2.trans a4 (by omega)⟩
 ·exact xZ5 hty R hc hs hx
end
def wz:CV→CV
 | .slice 0 [] none true=>.slice 1 [] none false
 |c=>c
def wk:CV→CV
 | .agg cs=>.agg (cs.map wz)
 |c=>wz c
def appW(h:Heap)(j:TI)(d:TypeDesc)(x:CV):Option (List CV):=match appC h j d x with
 |some ys=>some (if yXa d=true then ys.map wk else ys)
 |none=>none
def yJ5(ty:Ty)(h:Heap)(t u:TypeId)(s x:CV):Option (CV×Heap):=
 match ty t,ty u with
 | some i,some iu=>
  match i.desc with
  | .slice e=>
   match ty e with
   | some j=>
    if 2^30<j.bytes then none else
    match appW h j iu.desc x,srcE h j s,s with
    | some ys,some xs, .sref esz b off len cap ex=>match h[b]? with
     |some (.cells cs)=>
      if 2^44<(xs.length+ys.length)*(j.bytes+1)∨!(((xs++ys).flatMap CV.flat).all CV.one)then none else
      if len+ys.length≤cap then(if off+(len+ys.length)*esz≤cs.length then some (.sref esz b off (len+ys.length) cap ex,h.set b (.cells (zQd cs (off+len*esz) (ys.flatMap CV.flat))))else none)
      else if ex=true then some (.sref j.size h.length 0 (xs.length+ys.length) (xs.length+ys.length) false,h++[.cells ((xs++ys).flatMap CV.flat)])else none
     |_=>none
    |_,_,_=>none
   |none=>none
  |_=>none
 |_,_=>none
def xW4(ty:Ty)(h:Heap)(t:TypeId)(s:CV):Option (CV×Heap):=
 match ty t with
 | some i=>match i.desc with
  | .slice e=>match ty e,s with
   |some j, .sref esz b off len _ _=>match h[b]? with
    |some (.cells cs)=>if esz=j.size∧off+len*esz≤cs.length∧(j.zero.map wz).all CV.one=true then some (.tuple [],h.set b (.cells (zQd cs off (zWs len (j.zero.map wz)))))else none
    |_=>none
   | some j, .gref esz b k off len gen=>match rowG h b k gen with
    |some cs=>match h[b]? with
     |some (.rows css)=>if esz=j.size∧off+len*esz≤cs.length∧(j.zero.map wz).all CV.one=true then some (.tuple [],h.set b (.rows (css.set k (zQd cs off (zWs len (j.zero.map wz))))))else none
     |_=>none
    |none=>none
   |_,_=>none
  |_=>none
 |none=>none
section
variable {P:Program} {N:Nat} {φ:Phi} {St:Stab} {h:Heap} {w:World}
theorem wz_ok{c:CV}{v:Value}(h:VR φ St w c v):VR φ St w (wz c) v:=by
 unfold wz;split
 ·cases h with|slice _ _ _ _ a cap vs hat hvs hsz hcap hfull htok=>exact .slice _ _ _ _ _ _ vs (.inl rfl) hvs (by simp) hcap (fun h=>by simp at h) trivial
 ·exact h
theorem wZ0:∀{cs:List CV} {vs:List Value},VRL φ St w cs vs→VRL φ St w (cs.map wz) vs
 |[],_,h=>by cases h;exact .nil
 |c::cs,_,h=>by cases h with|cons _ v _ vs h hs=>exact .cons _ _ _ _ (wz_ok h) (wZ0 hs)
theorem vY7(c:CV)(hc:c.flat=[c]):(wz c).flat=[wz c]:=by
 unfold wz;split
 ·rfl
 ·exact hc
theorem wY2(c:CV):(wk c).flat=c.flat.map wz:=by
 cases c<;>try rfl
 rename_i a b d e;show(wz _).flat=[wz _];exact vY7 _ rfl
theorem wZ1:∀ys:List CV,(ys.map wk).flatMap CV.flat=(ys.flatMap CV.flat).map wz
 |[]=>rfl
 |y::ys=>by simp only[Qg,Qo,wY2,wZ1 ys,Qw]
theorem vZs{ty:Ty}(hty:ty.Ok P)(R:Rel N φ St h w){e:TypeId}{j:TI}(hj:ty e=some j){inf:TypeInfo}{z:Value}(g2:inf.size=j.size)(g3:inf.bytes=j.bytes)
  {d:TypeDesc} {x:CV} {ys:List CV} (hc:appW h j d x=some ys):∃ys0,appC h j d x=some ys0∧ys.length=ys0.length∧(∀vs,VRL φ St w (ys0.flatMap CV.flat) vs→VRL φ St w (ys.flatMap CV.flat) vs)∧((∀y∈ys0,y.flat.length=j.size)→∀y∈ys,y.flat.length=j.size):=by
 unfold appW at hc;split at hc<;>(try (simp at hc;done))
 rename_i ys0 h0;simp only[Qa]at hc;subst hc;refine⟨ys0,h0,by split<;>simp,fun vs hv=>?_,fun hl y hy=>?_⟩
 ·split
  ·rw[wZ1];exact wZ0 hv
  ·exact hv
 ·split at hy
  ·obtain⟨y0,hy0,rfl⟩:=Ji.1 hy
   rw[wY2,Qh];exact hl y0 hy0
  ·exact hl y hy
variable {ty:Ty} (hty:ty.Ok P) (R:Rel N φ St h w)
include hty R
theorem wYu{t u t0:TypeId}{s x c:CV}{h':Heap}(hc:yJ5 ty h t u s x=some (c,h')){vs vx:Value}(hs:VR φ St w s vs)(hx:VR φ St w x vx):
  OpOk P N φ St h w (Builtin.append_ #[t,u] t0 #[vs,vx]) c h':=by
 unfold yJ5 at hc;split at hc<;>(try (simp at hc;done))
 rename_i i iu hti htu;have hut:=(hty _ _ hti).und;have huu:=(hty _ _ htu).und;split at hc<;>(try (simp at hc;done))
 rename_i e hd;rw[hd]at hut;split at hc<;>(try (simp at hc;done))
 rename_i j hj;obtain⟨inf,z,g1,g2,g3,g4,g5,g6,_,g8⟩:=(hty e j hj).info;split at hc<;>(try (simp at hc;done))
 rename_i hcond;have hby:inf.bytes≤2^30:=by omega
 split at hc<;>(try (simp at hc;done))
 rename_i ys xs esz b off len cap ex hys hxs;obtain⟨ys0,hys0,hyl,hyv,hyz⟩:=vZs (z:=z) hty R hj g2 g3 hys;obtain⟨nvs,hnv0,hns0,hnsz0⟩:=wZs hty R hj g2 g3 g5 g6 g8 hys0 hx
 have hnv:=hyv _ hnv0;have hnsz:=hyz hnsz0;have hns:=hns0;rw[←hyl]at hns;obtain⟨ovs,hov,hos,hosz⟩:=yJb hty R hj hxs hs;rw[←g2]at hos;have hzs:z.cells.size=inf.size:=by
  have:=(zZ9 (φ:=φ) (St:=St) (w:=w) g5).length;rw[←Jk];omega
 split at hc<;>(try (simp at hc;done))
 rename_i cs hb;split at hc<;>(try (simp at hc;done))
 rename_i hbig;simp only[not_or,Nat.not_lt]at hbig;obtain⟨hbig,hone⟩:=hbig;replace hone:((xs++ys).flatMap CV.flat).all CV.one=true:=by simpa using hone
 have hsr:esz=j.size∧off+len*esz≤cs.length∧xs.length=len:=by
  simp only[srcE]at hxs;split at hxs<;>(try (simp at hxs;done))
  rename_i cs' hb';rw[hb]at hb';simp at hb';subst hb';split at hxs<;>(try (simp at hxs;done))
  rename_i hh;simp at hxs;exact⟨hh.1,hh.2.1,by rw[←hxs,zXr]⟩
 obtain⟨rfl,hle,rfl⟩:=hsr;obtain⟨r,base,size,rcap,hφ,rfl,k1,k2,k3,k4⟩:=zQn R hs (by simp[live,hb])
 have hnone:∀c∈ys.flatMap CV.flat,c.one=true:=by
  intro c hc';rw[Qq]at hone;exact hone c (by rw[Kb];exact Qy.2 (.inr hc'))
 have hb44:xs.length+ys.length≤2^44:=by
  rcases Nat.eq_zero_or_pos (xs.length+ys.length)with h0|h0
  ·omega
  ·have:=Nat.le_mul_of_pos_right (xs.length+ys.length) (show 0<j.bytes+1 by omega)
   omega
 have hyfl:(ys.flatMap CV.flat).length=ys.length*j.size:=zX2 _ hnsz;split at hc
 ·rename_i hroom
  split at hc<;>(try (simp at hc;done))
  rename_i hin;simp only[Qa,Je]at hc;obtain⟨rfl,rfl⟩:=hc;have hin':=hin;rw[Qz]at hin';obtain⟨w',hst,R',F⟩:=R.store P hφ hb (off+xs.length*j.size) (ys.flatMap CV.flat) nvs hnv hnone (by rw[hyfl];omega)
  have hp:(⟨r,base+off,none⟩:Addr).add (xs.length*inf.size)=⟨r,base+(off+xs.length*j.size),none⟩:=by rw[zKw,g2,Jp]
  have hrun:=zK2 (ty0:=t0) (base:=some ⟨r,base+off,none⟩) (sLen:=xs.length) (sCap:=rcap) hut g1 g4 huu hns (by omega) (w':=w') (fun a'' ha''=>by simp at ha'';subst ha'';rw[hp];exact hst) (by simp)
  exact⟨_,w',φ,St,hrun,R', .sref _ _ _ _ _ _ r base size rcap hφ k1 hroom k3 k4,F⟩
 ·rename_i hroom
  split at hc<;>(try (simp at hc;done))
  rename_i hex;simp only[Qa,Je]at hc;obtain⟨rfl,rfl⟩:=hc;have hrc:=k3 hex;have hall:VRL φ St w ((xs++ys).flatMap CV.flat) (ovs++nvs):=by rw[Kb];exact hov.append hnv
  have hallen:(ovs++nvs).length=(xs.length+ys.length)*j.size:=by
   rw[Q5,hos.total,hns.total,←Qz,g2]
  have hrestsz:∀nc,(Builtin.zeroCells z.cells (nc-(xs.length+ys.length))).size=(nc-(xs.length+ys.length))*j.size:=by
   intro nc;rw[size_zeroCells,hzs,g2]
  obtain⟨nc,n1,hrun⟩:=yQw (ty0:=t0) (base:=some ⟨r,base+off,none⟩) (sCap:=rcap) hut g1 g4 huu hos hns (by omega) hb44 (by
   rw[g3];have:=Nat.mul_le_mul_left (xs.length+ys.length) (show j.bytes≤j.bytes+1 by omega)
   omega) hby
  obtain⟨φ',R',V',F'⟩:=xK7 R (size:=j.size) (n:=xs.length+ys.length) (nc:=nc) (e:=e) hall hallen n1 (hrestsz nc);refine⟨_,_,φ',St,by rw[hrun];simp, ?_,V',F'⟩
  exact R'
theorem vZc{t t0:TypeId}{s c:CV}{h':Heap}(hc:xW4 ty h t s=some (c,h')){vs:Value}(hs:VR φ St w s vs):
  OpOk P N φ St h w (Builtin.clear_ #[t] t0 #[vs]) c h':=by
 unfold xW4 at hc;split at hc<;>(try (simp at hc;done))
 rename_i i hti;have hut:=zWv hty hti w;split at hc<;>(try (simp at hc;done))
 rename_i e hd;rw[hd]at hut;split at hc<;>(try (simp at hc;done))
 rotate_left
 ·rename_i j esz b k off len gen hj
  split at hc<;>(try (simp at hc;done))
  rename_i cs hl;split at hc<;>(try (simp at hc;done))
  rename_i css hb;split at hc<;>(try (simp at hc;done))
  rename_i hcond;obtain⟨rfl,hle,hone⟩:=hcond;simp only[Qa,Je]at hc;obtain⟨rfl,rfl⟩:=hc;obtain⟨rs,row,a,cap,hφ,hr,rfl,hcap,ho,hu',hg⟩:=zW9 R hs hl;obtain⟨css',hb',hk,hcl⟩:=zJf hl
  rw[hb]at hb';simp at hb';subst hb';obtain⟨z,hz,hzv,hzl,_⟩:=zJe hty hj w;have hzr:VRL φ St w (zWs len (j.zero.map wz)) (Builtin.zeroCells z.cells len).toList:=by
   rw[zYy];exact(wZ0 (zZ9 hzv)).zZ3 _
  have hzz:(zWs len (j.zero.map wz)).length=len*j.size:=by simp[zWs,hzl]
  have hone':∀c∈zWs len (j.zero.map wz),c.one=true:=by
   intro c hc;rw[Qq]at hone;unfold zWs at hc;obtain⟨l,hl,hcl⟩:=List.mem_flatten.1 hc;rw[K6 hl]at hcl;exact hone c hcl
  by_cases h0:len=0
  ·subst h0
   have e1:zQd cs off (zWs 0 (j.zero.map wz))=cs:=by simp[zQd,zWs]
   rw[e1,zKq hk,zKq hb];exact OpOk.pure R (v:=.tuple #[]) (by cases a<;>simp[Builtin.clear_,hut]) (.tuple [] [] .nil)
  ·have hg:GOk row a j.size off cap:=by
    rcases hg with h1|h1
    ·omega
    ·exact h1
   unfold GOk at hg;split at hg
   ·rename_i r base lim hbk
    obtain⟨rfl,hle2⟩:=hg;obtain⟨w',hst,R',F⟩:=R.vQl P hφ hb hk hr hbk off (zWs len (j.zero.map wz)) _ hzr hone' (by rw[hzz];exact hle)
    obtain⟨n,rfl⟩:=Nat.exists_eq_succ_of_ne_zero h0;exact⟨.tuple #[],w',φ,St,by simp[Builtin.clear_,hut,hz,hst],R', .tuple [] [] .nil,F⟩
   ·omega
 rename_i j esz b off len cap ex hj;split at hc<;>(try (simp at hc;done))
 rename_i cs hb;split at hc<;>(try (simp at hc;done))
 rename_i hcond;obtain⟨rfl,hle,hone⟩:=hcond;simp only[Qa,Je]at hc;obtain⟨rfl,rfl⟩:=hc;obtain⟨r,base,size,rcap,hφ,rfl,k1,k2,k3,k4⟩:=zQn R hs (by simp[live,hb])
 obtain⟨z,hz,hzv,hzl,_⟩:=zJe hty hj w;have hzr:VRL φ St w (zWs len (j.zero.map wz)) (Builtin.zeroCells z.cells len).toList:=by
  rw[zYy];exact(wZ0 (zZ9 hzv)).zZ3 _
 have hzz:(zWs len (j.zero.map wz)).length=len*j.size:=by simp[zWs,hzl]
 have hone':∀c∈zWs len (j.zero.map wz),c.one=true:=by
  intro c hc;rw[Qq]at hone;unfold zWs at hc;obtain⟨l,hl,hcl⟩:=List.mem_flatten.1 hc;rw[K6 hl]at hcl;exact hone c hcl
 obtain⟨w',hst,R',F⟩:=R.store P hφ hb off (zWs len (j.zero.map wz)) _ hzr hone' (by rw[hzz];exact hle)
 by_cases h0:len=0
 ·subst h0
  have e1:zQd cs off (zWs 0 (j.zero.map wz))=cs:=by simp[zQd,zWs]
  have e2:h.set b (.cells cs)=h:=by
   apply Jy;intro i;by_cases hi:i=b
   ·subst hi
    rw[Qk (List.getElem?_eq_some_iff.1 hb).1,hb]
   ·rw[Qd (Jw hi)]
  rw[e1,e2];exact OpOk.pure R (v:=.tuple #[]) (by simp[Builtin.clear_,hut]) (.tuple [] [] .nil)
 ·obtain⟨n,rfl⟩:=Nat.exists_eq_succ_of_ne_zero h0
  exact⟨.tuple #[],w',φ,St,by simp[Builtin.clear_,hut,hz,hst],R', .tuple [] [] .nil,F⟩
end
end Go.Eng
/- The other operations. -/
namespace Go.Eng
set_option linter.unusedVariables false
section
variable {P:Program} {N:Nat} {φ:Phi} {St:Stab} {h:Heap} {w:World}
def wJ7(c a b:CV):Option CV:=
 match c with
 | .bool t=>some (if t then a else b)
 |_=>none
def unC(op:UnOp)(x:CV):Option CV:=
 match op,x with
 | .not, .bool b=>some (.bool !b)
 | .neg, .int k n=>some (.int k (k.wrap (0-n)))
 | .xor, .int k n=>some (.int k (k.wrap (BitVec.ofInt k.bits (if k.signed then -1 else k.max)^^^BitVec.ofInt k.bits n).toNat))
 |_,_=>none
theorem unC_ok{op:UnOp}{x c:CV}(hc:unC op x=some c){v:Value}(hx:VR φ St w x v):∃r,(Op.unary op v).run P w=.ok r w∧VR φ St w c r:=by
 unfold unC at hc;split at hc<;>(try (simp at hc;done))<;>(simp at hc;subst hc;cases hx)
 ·exact⟨_,rfl, .bool _⟩
 ·exact⟨.int _ _,rfl,by simp only[Int.zero_sub];exact .int _ _⟩
 ·exact⟨_,rfl, .int _ _⟩
def wQ9(ty:Ty)(t:TypeId)(x:CV)(f:Nat):Option CV:=
 match ty t,x with
 | some i, .agg cs=>match i.desc with
  | .struct fs=>match fs[f]? with
   |some fld=>match ty fld.type with
    |some j=>zZ8 j cs fld.offset
    |none=>none
   |none=>none
  |_=>none
 |_,_=>none
def xWr(ty:Ty)(t:TypeId)(x ix:CV):Option CV:=
 match ty t,ix with
 | some i, .int _ n=>
  match i.desc,x with
  | .array len e, .agg cs=>match ty e with
   |some j=>if 0≤n∧n<len then zZ8 j cs (n.toNat*j.size)else none
   |none=>none
  | .string, .str s=>if 0≤n then(s[n.toNat]?).map fun b=>.int .u8 b.toNat else none
  |_,_=>none
 |_,_=>none
def yK0(x:CV)(i:Nat):Option CV:=
 match x with
 | .tuple vs=>vs[i]?
 |_=>none
theorem wZc{x c:CV}{i:Nat}(hc:yK0 x i=some c){v:Value}(hx:VR φ St w x v):∃r,(Instr.extract v i).run P w=.ok r w∧VR φ St w c r:=by
 unfold yK0 at hc;split at hc<;>(try (simp at hc;done))
 cases hx with|tuple cs vs hv=>
 obtain⟨r,h1,h2⟩:=hv.get i c hc;exact⟨r,by simp[Instr.extract,h1],h2⟩
def zW6(h:Heap)(x:CV):Option CV:=
 match x with
 | .ptr b off=>if live h b then some (.ptr b off)else none
 | .gptr b k off gen=>match rowG h b k gen with
  |some _=>some (.gptr b k off gen)
  |none=>none
 | .rop c=>some (.rop c)
 | .func f xs ys=>some (.func f xs ys)
 | .iface t c=>some (.iface t c)
 |_=>none
def bytesOf:List CV→Option (List UInt8)
 |[]=>some []
 | .int .u8 n::cs=>match bytesOf cs with
  |some bs=>some (UInt8.ofNat n.toNat::bs)
  |none=>none
 |_=>none
def marks:Bool:=false
def yWj(ty:Ty)(h:Heap)(n:Nat)(s t:TypeId)(x:CV):Option (CV×Option HObj):=
 match ty s,ty t with
 | some i,some i'=>
  match i'.desc,x with
  | .int k, .int _ a=>some (.int k (k.wrap a),none)
  | .string, .str b=>some (.str b,none)
  | .slice e, .str b=>match ty e with
   |some j=>match j.desc with
    | .int .u8=>if marks=true then some (.sref 1 n 0 b.length b.length false,some (.cells (b.map fun c=>.int .u8 c.toNat)))else none
    |_=>none
   |none=>none
  | .slice e, .sref esz b off len cap ex=>if s=t∧live h b then(match ty e with
   |some j=>match j.desc with
    | .int .u8=>if marks=true then some (.sref esz b off len cap ex,none)else none
    |_=>none
   |none=>none)else none
  | .string,x=>match i.desc with
   | .slice e=>match ty e with
    | some j=>match j.desc with
     | .int .u8=>match srcE h j x with
      |some xs=>(bytesOf xs).map fun b=>(.str b,none)
      |none=>none
     |_=>none
    |none=>none
   |_=>none
  |_,_=>none
 |_,_=>none
def lenC(ty:Ty)(h:Heap)(t:TypeId)(x:CV):Option CV:=
 match ty t with
 |none=>none
 | some i=>
  match i.desc,x with
  | .string, .str s=>some (.int .i64 s.length)
  | .array n _,_=>some (.int .i64 n)
  | .slice _, .slice _ xs _ _=>some (.int .i64 xs.length)
  | .slice _, .sref _ b _ len _ _=>if live h b then some (.int .i64 len)else none
  | .slice _, .gref _ _ _ _ len _=>some (.int .i64 len)
  | .map _ _, .nilmap=>some (.int .i64 0)
  | .map _ _, .map b=>match h[b]? with
   |some (.map es)=>some (.int .i64 es.length)
   |_=>none
  | .pointer a,_=>match ty a with
   |some j=>match j.desc with
    | .array n _=>some (.int .i64 n)
    |_=>none
   |none=>none
  |_,_=>none
def capC(ty:Ty)(h:Heap)(t:TypeId)(x:CV):Option CV:=
 match ty t with
 |none=>none
 |some i=>
  match i.desc,x with
  | .array n _,_=>some (.int .i64 n)
  | .slice _, .slice _ xs _ true=>some (.int .i64 xs.length)
  | .slice _, .sref _ b _ _ cap true=>if live h b then some (.int .i64 cap)else none
  |_,_=>none
def yX2(ty:Ty)(t:TypeId)(x:CV):Option CV:=
 match ty t with
 |some i=>match i.desc with
  | .interface _=>none
  |_=>some (.iface t x)
 |none=>none
def zJ4(ty:Ty)(x:CV)(asserted:TypeId)(ok:Bool):Option CV:=
 match ty asserted with
 |none=>none
 | some i=>
  match i.desc,x with
  | .interface _,_=>none
  |_, .niliface=>if ok then(zeroV i).map fun z=>.tuple [z, .bool false]else none
  |_, .iface t v=>
   if t=asserted then some (if ok then .tuple [v, .bool true]else v)
   else if ok then(zeroV i).map fun z=>.tuple [z, .bool false]else none
  |_,_=>none
def wWb (ty:Ty)(h:Heap)(t:TypeId)(d s:CV):Option (CV×Heap):=
 match ty t with
 |none=>none
 | some i=>
  match i.desc with
  | .slice e=>
   match ty e with
   |none=>none
   | some j=>
    match srcE h j s with
    |none=>none
    | some ys=>
     match d with
     | .sref esz b off len _ _=>
      match h[b]? with
      | some (.cells cs)=>
       let news:=(ys.take (min ys.length len)).flatMap CV.flat
       if esz=j.size∧off+len*esz≤cs.length∧news.all CV.one then
        some (.int .i64 (min ys.length len:Nat),h.set b (.cells (zQd cs off news)))
       else none
      |_=>none
     | .gref esz b k off len gen=>match rowG h b k gen with
      | some cs=>match h[b]? with
       | some (.rows css)=>
        if esz=j.size∧off+len*esz≤cs.length∧((ys.take (min ys.length len)).flatMap CV.flat).all CV.one then
         some (.int .i64 (min ys.length len:Nat),h.set b (.rows (css.set k (zQd cs off ((ys.take (min ys.length len)).flatMap CV.flat)))))
        else none
       |_=>none
      |none=>none
     | .slice _ [] _ _=>some (.int .i64 0,h)
     |_=>none
  |_=>none
section
variable {ty:Ty} (hty:ty.Ok P) (R:Rel N φ St h w)
include hty
theorem vXu{t:TypeId}{x c:CV}{f:Nat}(hc:wQ9 ty t x f=some c){v:Value}(hx:VR φ St w x v):∃r,(Instr.field t v f).run P w=.ok r w∧VR φ St w c r:=by
 unfold wQ9 at hc;split at hc<;>(try (simp at hc;done))
 rename_i i cs hi;have hu:=zWv hty hi w;split at hc<;>(try (simp at hc;done))
 rename_i fs hd;rw[hd]at hu;split at hc<;>(try (simp at hc;done))
 rename_i fld hf;split at hc<;>(try (simp at hc;done))
 rename_i j hj;cases hx with|agg _ vs hv=>
 obtain⟨r,h1,h2⟩:=yQc hty hj hv hc;exact⟨r,by simp[Instr.field,hu,hf,asAgg,h1],h2⟩
theorem vXl{t:TypeId}{x ix c:CV}(hc:xWr ty t x ix=some c){v vi:Value}(hx:VR φ St w x v)(hi:VR φ St w ix vi):∃r,(Instr.index t v vi).run P w=.ok r w∧VR φ St w c r:=by
 unfold xWr at hc;split at hc<;>(try (simp at hc;done))
 rename_i i k n hti;cases hi;have hu:=zWv hty hti w;split at hc<;>(try (simp at hc;done))
 ·rename_i len e cs hd
  rw[hd]at hu;split at hc<;>(try (simp at hc;done))
  rename_i j hj;split at hc<;>(try (simp at hc;done))
  rename_i hn;cases hx with|agg _ vs hv=>
  obtain⟨r,h1,h2⟩:=yQc hty hj hv hc;exact⟨r,by simp[Instr.index,asIntOf,hu,hn,zQ0 hty hj,h1],h2⟩
 ·rename_i s hd
  rw[hd]at hu;split at hc<;>(try (simp at hc;done))
  rename_i hn;cases hg:s[n.toNat]? with
  |none=>simp[hg]at hc
  | some b=>
   simp[hg]at hc;subst hc;cases hx with|str _ t0 hs=>
   have hb:t0[n.toNat]?=some b:=by
    subst hs;have hlt:=(List.getElem?_eq_some_iff.1 hg).1;have hlt':n.toNat<t0.size:=by rw[Jk]at hlt;exact hlt
    rw[getElem?_pos t0 n.toNat hlt'];have:=(List.getElem?_eq_some_iff.1 hg).2;rw[←this];rfl
   exact⟨.int .u8 b.toNat,by simp[Instr.index,asIntOf,hu,hn,hb], .int _ _⟩
include R
omit hty in
theorem wQn{x c:CV}(hc:zW6 h x=some c){v:Value}(hx:VR φ St w x v):c=x∧∀o:Oper,∀ρ:Operand→Value,∀y,o.op= .nilCheck y→ρ y=v→
  (execOp ρ o).run P w=.ok (.value v) w:=by
 unfold zW6 at hc;split at hc<;>(try (simp at hc;done))
 ·split at hc<;>(try (simp at hc;done))
  rename_i hl;simp at hc;subst hc;obtain⟨r,base,size,_,rfl⟩:=zKv R hx hl;exact⟨rfl,fun o ρ y ho hy=>by simp only[execOp,ho];rw[hy];rfl⟩
 ·split at hc<;>(try (simp at hc;done))
  rename_i cs hl;simp at hc;subst hc;obtain⟨rs,row,r,base,lim,hφ,hr,hb,rfl,ho,hu'⟩:=yX9 R hx hl;exact⟨rfl,fun o ρ y ho hy=>by simp only[execOp,ho];rw[hy];rfl⟩
 ·simp at hc;subst hc;cases hx
  exact⟨rfl,fun o ρ y ho hy=>by simp only[execOp,ho];rw[hy];rfl⟩
 ·simp at hc;subst hc;cases hx
  exact⟨rfl,fun o ρ y ho hy=>by simp only[execOp,ho];rw[hy];rfl⟩
 ·simp at hc;subst hc;cases hx
  exact⟨rfl,fun o ρ y ho hy=>by simp only[execOp,ho];rw[hy];rfl⟩
theorem uWy{t t0:TypeId}{x c:CV}(hc:lenC ty h t x=some c){v:Value}(hx:VR φ St w x v):∃r,(Builtin.len_ #[t] t0 #[v]).run P w=.ok r w∧VR φ St w c r:=by
 unfold lenC at hc;split at hc<;>(try (simp at hc;done))
 rename_i i hi;have hu:=zWv hty hi w;split at hc<;>(try (simp at hc;done))
 ·rename_i s hd;rw[hd]at hu;simp at hc;subst hc
  cases hx with|str _ t1 hs=>
  refine⟨.int .i64 s.length, ?_, .int _ _⟩;have:t1.size=s.length:=by rw[←hs];exact(Jk (xs:=t1.data)).symm
  simp[Builtin.len_,hu,goInt,this]
 ·rename_i n e hd;rw[hd]at hu;simp at hc;subst hc
  exact⟨.int .i64 n,by simp[Builtin.len_,hu,goInt], .int _ _⟩
 ·rename_i e esz xs tok full hd;rw[hd]at hu;simp at hc;subst hc
  cases hx with|slice _ _ _ _ a cap vs hat hvs hsz hcap hfull htok=>
  exact⟨.int .i64 xs.length,by simp[Builtin.len_,hu,goInt], .int _ _⟩
 ·rename_i hd;rw[hd]at hu
  split at hc<;>(try (simp at hc;done))
  rename_i hl;simp at hc;subst hc;obtain⟨r,base,size,rcap,_,rfl,_⟩:=zQn R hx hl;exact⟨_,by simp only[Builtin.len_,List.getElem?_toArray,K8,Sem.run_bind,hu,Result.andThen_ok];rfl, .int _ _⟩
 ·rename_i e0 esz0 b0 k0 off0 len0 gen0 hd;rw[hd]at hu;simp at hc;subst hc
  have hx':∃a cap,v=.slice a len0 cap:=by
   cases hx with
   |gref _ _ _ _ _ _ rs a cap=>exact⟨a,cap,rfl⟩
   |grefDead _ _ _ _ _ _ a cap=>exact⟨a,cap,rfl⟩
  obtain⟨a,cap,rfl⟩:=hx';exact⟨_,by simp only[Builtin.len_,List.getElem?_toArray,K8,Sem.run_bind,hu,Result.andThen_ok];rfl, .int _ _⟩
 ·rename_i hd;rw[hd]at hu;simp at hc;subst hc;cases hx
  exact⟨.int .i64 0,by simp[Builtin.len_,hu,goInt], .int _ _⟩
 ·rename_i b hd;rw[hd]at hu
  split at hc<;>(try (simp at hc;done))
  rename_i es hb;simp at hc;subst hc;obtain⟨r,hφ,rfl⟩:=yXn R hx (by simp[live,hb])
  obtain⟨_,o,O,ho,hw,hr⟩:=R.obj b r hφ;rw[hb]at ho;simp at ho;subst ho;cases hr with|map _ entries clock hk hv=>
  refine⟨.int .i64 es.length, ?_, .int _ _⟩;have:=hk.length;simp at this;simp[Builtin.len_,hu,goInt,getObj,Sem.run,hw,this]
 ·rename_i a hd;rw[hd]at hu
  split at hc<;>(try (simp at hc;done))
  rename_i j hj;have hu2:=zWv hty hj w;split at hc<;>(try (simp at hc;done))
  rename_i n e hd2;rw[hd2]at hu2;simp at hc;subst hc;exact⟨.int .i64 n,by simp[Builtin.len_,hu,hu2,goInt], .int _ _⟩
theorem uXn{t t0:TypeId}{x c:CV}(hc:capC ty h t x=some c){v:Value}(hx:VR φ St w x v):∃r,(Builtin.cap_ #[t] t0 #[v]).run P w=.ok r w∧VR φ St w c r:=by
 unfold capC at hc;split at hc<;>(try (simp at hc;done))
 rename_i i hi;have hu:=zWv hty hi w;split at hc<;>(try (simp at hc;done))
 ·rename_i n e hd;rw[hd]at hu;simp at hc;subst hc
  exact⟨.int .i64 n,by simp[Builtin.cap_,hu,goInt], .int _ _⟩
 ·rename_i e esz xs tok hd;rw[hd]at hu;simp at hc;subst hc
  cases hx with|slice _ _ _ _ a cap vs hat hvs hsz hcap hfull htok=>
  exact⟨.int .i64 xs.length,by simp[Builtin.cap_,hu,goInt,hfull rfl], .int _ _⟩
 ·rename_i hd;rw[hd]at hu
  split at hc<;>(try (simp at hc;done))
  rename_i hl;simp at hc;subst hc;obtain⟨r,base,size,rcap,_,rfl,_,_,h3,_⟩:=zQn R hx hl;exact⟨.int .i64 _,by simp[Builtin.cap_,hu,goInt];rfl,by rw[h3 rfl];exact .int _ _⟩
omit R in
theorem xJh{t:TypeId}{x c:CV}(hc:yX2 ty t x=some c){v:Value}(hx:VR φ St w x v):∃r,(Instr.makeInterface t v).run P w=.ok r w∧VR φ St w c r:=by
 unfold yX2 at hc;split at hc<;>(try (simp at hc;done))
 rename_i i hi;have hu:=zWv hty hi w;split at hc<;>(try (simp at hc;done))
 rename_i hd;simp at hc;subst hc;refine⟨.iface t v, ?_, .iface _ _ _ hx⟩;simp only[Instr.makeInterface,Sem.run_bind,hu,Result.andThen_ok];rfl
theorem vJz{t u t0:TypeId}{d s c:CV}{h':Heap}(hc:wWb ty h t d s=some (c,h')){vd vs:Value}(hd:VR φ St w d vd)(hs:VR φ St w s vs):
  OpOk P N φ St h w (Builtin.copy_ #[t,u] t0 #[vd,vs]) c h':=by
 unfold wWb at hc;split at hc<;>(try (simp at hc;done))
 rename_i i hi;have hu:=zWv hty hi w;split at hc<;>(try (simp at hc;done))
 rename_i e hd1;rw[hd1]at hu;split at hc<;>(try (simp at hc;done))
 rename_i j hj;split at hc<;>(try (simp at hc;done))
 rename_i ys hys;obtain⟨nvs,hnv,hns,hnsz⟩:=yJb hty R hj hys hs;split at hc<;>(try (simp at hc;done))
 ·rename_i esz b off len cap ex
  split at hc<;>(try (simp at hc;done))
  rename_i cs hb;dsimp only at hc;split at hc<;>(try (simp at hc;done))
  rename_i hcond;obtain⟨rfl,hle,hone⟩:=hcond;simp only[Qa,Je]at hc;obtain⟨rfl,rfl⟩:=hc;obtain⟨r,base,size,rcap,hφ,rfl,k1,k2,k3,k4⟩:=zQn R hd (by simp[live,hb])
  have hfl:(ys.take (min ys.length len)).flatMap CV.flat=(ys.flatMap CV.flat).take (min ys.length len*j.size):=yXd _ _ hnsz;have hlen:((ys.take (min ys.length len)).flatMap CV.flat).length=min ys.length len*j.size:=by
   rw[zX2 _ (fun y hy=>hnsz y (Kk hy))];simp
  have hmle:min ys.length len*j.size≤len*j.size:=Qn _ (by omega)
  obtain⟨w',hst,R',F⟩:=R.store P hφ hb off ((ys.take (min ys.length len)).flatMap CV.flat) (nvs.take (min ys.length len*j.size)) (by rw[hfl];exact hnv.take _) (by rw[Qq]at hone;exact hone) (by omega)
  refine⟨.int .i64 (min ys.length len:Nat),w',φ,St, ?_,R', .int _ _,F⟩;have hl:=hns.len w;have hcells:=hns.cells w (min ys.length len) (fun _=>rfl) (by omega)
  simp[Builtin.copy_,hu,hl,zQ0 hty hj,show Nat.min ys.length len=min ys.length len from rfl,hcells,hst,goInt]
 ·rename_i esz b k off len gen
  split at hc<;>(try (simp at hc;done))
  rename_i cs hl;split at hc<;>(try (simp at hc;done))
  rename_i css hb;split at hc<;>(try (simp at hc;done))
  rename_i hcond;obtain⟨rfl,hle,hone⟩:=hcond;simp only[Qa,Je]at hc;obtain⟨rfl,rfl⟩:=hc;obtain⟨rs,row,a,cap,hφ,hr,rfl,hcap,ho,hu',hg⟩:=zW9 R hd hl;obtain⟨css',hb',hk,hcl⟩:=zJf hl
  rw[hb]at hb';simp at hb';subst hb';have hfl:(ys.take (min ys.length len)).flatMap CV.flat=(ys.flatMap CV.flat).take (min ys.length len*j.size):=yXd _ _ hnsz
  have hlen:((ys.take (min ys.length len)).flatMap CV.flat).length=min ys.length len*j.size:=by
   rw[zX2 _ (fun y hy=>hnsz y (Kk hy))];simp
  have hmle:min ys.length len*j.size≤len*j.size:=Qn _ (by omega)
  have hll:=hns.len w;have hcells:=hns.cells w (min ys.length len) (fun _=>rfl) (by omega)
  by_cases h0:len=0
  ·subst h0
   have e1:zQd cs off ((ys.take (min ys.length 0)).flatMap CV.flat)=cs:=by simp[zQd]
   rw[e1,zKq hk,zKq hb];refine OpOk.pure R (v:=.int .i64 (min ys.length 0:Nat)) ?_ (.int _ _);have hcells:=hns.cells w 0 (fun _=>rfl) (by omega)
   cases a<;>simp[Builtin.copy_,hu,hll,zQ0 hty hj,hcells,goInt,storeCells]
  ·have hg:GOk row a j.size off cap:=by
    rcases hg with h1|h1
    ·omega
    ·exact h1
   unfold GOk at hg;split at hg
   ·rename_i r base lim hbk
    obtain⟨rfl,hle2⟩:=hg;obtain⟨w',hst,R',F⟩:=R.vQl P hφ hb hk hr hbk off ((ys.take (min ys.length len)).flatMap CV.flat) (nvs.take (min ys.length len*j.size)) (by rw[hfl];exact hnv.take _) (by rw[Qq]at hone;exact hone) (by omega)
    refine⟨.int .i64 (min ys.length len:Nat),w',φ,St, ?_,R', .int _ _,F⟩;simp[Builtin.copy_,hu,hll,zQ0 hty hj,show Nat.min ys.length len=min ys.length len from rfl,hcells,hst,goInt]
   ·omega
 ·simp at hc;obtain⟨rfl,rfl⟩:=hc
  cases hd with|slice _ xs _ _ a cap vs0 hat hvs hsz hcap hfull htok=>
  refine OpOk.pure R (v:=.int .i64 0) ?_ (.int _ _);have hl:=hns.len w;have hcells:=hns.cells w 0 (fun _=>rfl) (by omega)
  cases a<;>simp[Builtin.copy_,hu,hl,zQ0 hty hj,hcells,goInt,storeCells]
omit hty R in
theorem xZ1{P:Program}:∀{cs:List CV} {bs:List UInt8} {vs:List Value},bytesOf cs=some bs→VRL φ St w cs vs→∀(acc:ByteArray),
  ∃t:ByteArray,(forIn vs acc fun c (r:ByteArray)=>(match c with
   | .int .u8 n=>pure (ForInStep.yield (r.push (UInt8.ofNat n.toNat)))
   | _ => do let _ ← (stuck "bytesToString: byte expected" : Sem PUnit); pure (ForInStep.yield r) : Sem (ForInStep ByteArray))).run P w = .ok t w ∧ t.data.toList = acc.data.toList ++ bs
 |[],bs,vs,h,hv,acc=>by cases hv;simp[bytesOf]at h;subst h;exact⟨acc,by simp,by simp⟩
 | c::cs,bs,vs,h,hv,acc=>by
  cases hv with|cons _ v _ vs h1 h2=>
  unfold bytesOf at h;split at h<;>(try (simp at h;done))
  ·rename_i heq;simp at heq
  ·rename_i n cs' heq
   simp at heq;obtain⟨rfl,rfl⟩:=heq;split at h<;>(try (simp at h;done))
   rename_i bs' hb;simp at h;subst h;cases h1;obtain⟨t,g1,g2⟩:=xZ1 hb h2 (acc.push (UInt8.ofNat n.toNat));refine⟨t,by simpa using g1, ?_⟩
   rw[g2];simp[ByteArray.data_push]
theorem vJ1{s t:TypeId}{x c:CV}{n:Nat}{o:Option HObj}(hc:yWj ty h n s t x=some (c,o))(hnew:∀b,o=some b→φ n=none∧h[n]?=some b){v:Value}(hx:VR φ St w x v):yJ8 P N φ St h w n (convert s t v) c:=by
 unfold yWj at hc;split at hc<;>(try (simp at hc;done))
 rename_i i i' hi hi';have hu:=zWv hty hi w;have hu':=zWv hty hi' w;split at hc
 ·rename_i hd;rw[hd]at hu';simp at hc;obtain⟨rfl,rfl⟩:=hc;cases hx
  refine yJ8.yW2 R ?_ (.int _ _);simp[convert,hu,hu',Conv.intToInt]
 ·rename_i hd;rw[hd]at hu';simp at hc;obtain⟨rfl,rfl⟩:=hc
  have hx':=hx;cases hx with|str _ t0 hs=>
  refine yJ8.yW2 R (v:=.string t0) ?_ hx';simp only[convert,Sem.run_bind,hu,hu',Result.andThen_ok];rfl
 ·rename_i e b hd;rw[hd]at hu'
  split at hc<;>(try (simp at hc;done))
  rename_i j hj;have hue:=zWv hty hj w;split at hc<;>(try (simp at hc;done))
  simp[marks]at hc
 ·rename_i e esz b off len cap ex hd;rw[hd]at hu'
  split at hc<;>(try (simp at hc;done))
  rename_i hcond;obtain⟨rfl,hl⟩:=hcond;split at hc<;>(try (simp at hc;done))
  rename_i j hj;have hue:=zWv hty hj w;split at hc<;>(try (simp at hc;done))
  simp[marks]at hc
 ·rename_i hd hns;rw[hd]at hu'
  split at hc<;>(try (simp at hc;done))
  rename_i e hd1;rw[hd1]at hu;split at hc<;>(try (simp at hc;done))
  rename_i j hj;have hue:=zWv hty hj w;have f:=hty e j hj;split at hc<;>(try (simp at hc;done))
  rename_i hd2;rw[hd2]at hue;have h1:j.size=1:=f.one (by rw[f.agg,hd2];rfl)
  split at hc<;>(try (simp at hc;done))
  rename_i xs hxs;cases hb:bytesOf xs with
  |none=>simp[hb]at hc
  | some bs=>
   simp[hb]at hc;obtain⟨rfl,rfl⟩:=hc;obtain⟨vs,hv,hso,hsz⟩:=yJb hty R hj hxs hx;have hfl:∀{ys:List CV} {bs:List UInt8},bytesOf ys=some bs→ys.flatMap CV.flat=ys:=by
    intro ys;induction ys with
    |nil=>intro _ _;rfl
    | cons y ys ih=>
     intro bs h;unfold bytesOf at h;split at h<;>(try (simp at h;done))
     ·rename_i heq;simp at heq
     ·rename_i n cs' heq
      simp at heq;obtain⟨rfl,rfl⟩:=heq;split at h<;>(try (simp at h;done))
      rename_i bs' hb;simp[CV.flat,ih hb]
   rw[hfl hb]at hv;obtain⟨t,g1,g2⟩:=xZ1 (P:=P) hb hv ByteArray.empty;refine yJ8.yW2 R (v:=.string t) ?_ (.str _ _ (by simpa using g2))
   have hx2:(∃a len cap,v=.slice a len cap):=by
    unfold srcE at hxs;split at hxs<;>(try (simp at hxs;done))
    ·cases hx;exact⟨_,_,_,rfl⟩
    ·split at hxs<;>(try (simp at hxs;done))
     rename_i hb';obtain⟨_,_,_,_,_,rfl,_⟩:=zQn R hx (by simp[live,hb'])
     exact⟨_,_,_,rfl⟩
    ·cases hx with
     |gref=>exact⟨_,_,_,rfl⟩
     |grefDead=>exact⟨_,_,_,rfl⟩
    ·exact absurd rfl (hns _)
   obtain⟨a,len,cap,rfl⟩:=hx2;have hl:=hso.len w;have hcells:=hso.cells w xs.length (fun _=>rfl) (Qe _)
   rw[←hso.total,Jj,h1]at hcells;have hlen:len=xs.length:=by simpa[Builtin.lenOf]using hl
   subst hlen;simp only[convert,Sem.run_bind,hu,hu',Result.andThen_ok,hue];cases a with
   | none=>
    simp[Builtin.firstCells]at hcells;subst hcells;cases hv;simp[bytesOf]at hb;subst hb;have:t=ByteArray.empty:=by
     obtain⟨⟨l⟩⟩:=t;simp at g2;subst g2;rfl
    subst this;rfl
   |some a=>
    simp only[Builtin.firstCells,Wf]at hcells;simp only[Conv.bytesToString,Sem.run_bind,hcells,Result.andThen_ok];rw[←Array.forIn_toList];refine Eq.trans (Kr (fun r=>Result.andThen r _) (show _=_ from g1)) ?_
    rfl
 ·simp at hc
omit R in
theorem xXm{x c:CV}{t u:TypeId}{ok:Bool}(hc:zJ4 ty x u ok=some c){v:Value}(hx:VR φ St w x v):∃r,(Instr.typeAssert v t u ok).run P w=.ok r w∧VR φ St w c r:=by
 unfold zJ4 at hc;split at hc<;>(try (simp at hc;done))
 rename_i i hi;have hu:=zWv hty hi w;obtain⟨z,hz,hzc,hzl,hzg⟩:=zJe hty hi w;have hzr:∀zc,zeroV i=some zc→VR φ St w zc z:=fun zc hzv=>wZx hzv hzc hzg
 split at hc<;>(try (simp at hc;done))
 ·rename_i hd
  split at hc<;>(try (simp at hc;done))
  rename_i hok;cases hx;cases hzv:zeroV i with
  |none=>simp[hzv]at hc
  |some zc=>
   simp[hzv]at hc;subst hc;refine⟨.tuple #[z, .bool false], ?_, .tuple _ [z, .bool false] (.cons _ _ _ _ (hzr zc hzv) (.cons _ _ _ _ (.bool _) .nil))⟩;simp only[Instr.typeAssert,Sem.run_bind,hu,Result.andThen_ok]
   cases hdd:i.desc<;>first|exact absurd hdd (hd _)|(simp[hok,hz])
 ·rename_i t' v' hd
  cases hx with|iface _ _ v1 h1=>
  split at hc
  ·rename_i heq
   subst heq;simp at hc;subst hc;refine⟨if ok then .tuple #[v1, .bool true]else v1, ?_, ?_⟩
   ·simp only[Instr.typeAssert,Sem.run_bind,hu,Result.andThen_ok]
    cases hdd:i.desc<;>first|exact absurd hdd (hd _)|(simp;done)|(cases ok<;>simp)
   ·cases ok
    ·exact h1
    ·exact .tuple _ [v1, .bool true] (.cons _ _ _ _ h1 (.cons _ _ _ _ (.bool _) .nil))
  ·rename_i hne
   split at hc<;>(try (simp at hc;done))
   rename_i hok;cases hzv:zeroV i with
   |none=>simp[hzv]at hc
   |some zc=>
    simp[hzv]at hc;subst hc;refine⟨.tuple #[z, .bool false], ?_, .tuple _ [z, .bool false] (.cons _ _ _ _ (hzr zc hzv) (.cons _ _ _ _ (.bool _) .nil))⟩;simp only[Instr.typeAssert,Sem.run_bind,hu,Result.andThen_ok]
    cases hdd:i.desc<;>first|exact absurd hdd (hd _)|(simp[hok,hz,hne])
end
end
end Go.Eng
/- Stores and copies that lengthen what is known of a row with room. -/
namespace Go.Eng
set_option linter.unusedVariables false
theorem xXw{α:Type}(cs:List α)(off:Nat)(news:List α)(h:off≤cs.length):(zQd cs off news).length=max cs.length (off+news.length):=by
 simp[zQd];omega
theorem wX6{α:Type}(cs:List α)(off:Nat)(news:List α)(h:off≤cs.length)(j:Nat):
  (zQd cs off news)[j]?=if j<off then cs[j]? else if j<off+news.length then news[j-off]? else cs[j]?:=by
 unfold zQd;rw[Jn,Kn];have hl:(cs.take off).length=off:=by simp;omega
 rw[hl];split
 ·rw[Jh (by assumption)]
 ·rw[Kn]
  split
  ·rw[Qf (by omega)]
  ·rw[Qi (by omega),Jr]
   congr 1;omega
theorem Rel.vYi{N:Nat}{φ:Phi}{St:Stab}{h:Heap}{w:World}(P:Program)(R:Rel N φ St h w){b r base size:Nat}(hφ:φ b=some (.own r base size)){cs:List CV}(hh:h[b]? =some (.cells cs))
  (off:Nat) (news:List CV) (vs:List Value) (hv:VRL φ St w news vs) (hone:∀c∈news,c.one=true) (hl:off≤cs.length) (hl2:base+off+news.length≤size):
  ∃w',(storeCells ⟨r,base+off,none⟩ vs).run P w=.ok () w'∧Rel N φ St (h.set b (.cells (zQd cs off news))) w'∧Frm h.length φ St w φ St w':=by
 obtain⟨hN,cs',arr,elem,ho,hw,⟨h1,hz⟩,h2,h3⟩:=R.own b r base size hφ;rw[hh]at ho;simp at ho;subst ho;have hlen:=hv.length;have hrun:=zWz P r (base+off) elem.1 elem.2 vs 0 arr w hw (by omega) (hv.one hone) (by rw[h1];exact hz)
 simp only[Ks]at hrun;let arr':Array Value:=(zQd arr.toList (base+off) vs).toArray;have harr':(arr.toList.take (base+off)++vs++arr.toList.drop (base+off+vs.length)).toArray=arr':=rfl
 rw[harr']at hrun;refine⟨_,hrun, ?_⟩;have hbr:r<w.heap.size:=(Array.getElem?_eq_some_iff.1 hw).1;have hput:φ.put b (.own r base size)=φ:=by
  funext b';by_cases hb:b'=b
  ·subst hb;rw[zQg,hφ]
  ·rw[zQc _ _ _ _ hb]
 have hother:∀k,k≠r→(w.setRow r arr').heap[k]?=w.heap[k]?:=fun k hk=>setRow_other w r k _ hk
 have m:Mono φ St w φ St (w.setRow r arr'):=⟨fun _=>.refl _,fun _ _ h=>h,fun r' j hs=>by
  have hne:r'≠r:=fun e=>R.stOwn b r base size j hφ (e▸hs)
  exact cell_setRow_other w r _ ⟨r',j,none⟩ hne⟩
 have hbl:=R.dom b _ hφ;have hsl:arr'.size=size:=by
  show(zQd arr.toList (base+off) vs).toArray.size=size;rw[Kj,zWa _ _ _ (by simp;omega)];simpa using h1
 refine⟨?_,Frm.quiet m (by simp) (fun k hk hn=>hother k fun e=>hn b _ hφ (by rw[e];rfl)) rfl rfl rfl⟩
 have:=R.change b (.own r base size) (.cells (zQd cs off news)) St (h.set b (.cells (zQd cs off news))) (w.setRow r arr') (hput.symm▸m) (by simp)
  (by rw[Qk hbl]) (by simp) (fun b' e hne hb'=>by rw[Qd (Jw hne)])
  (fun b' e r' hne hb' he=>hother r' (fun e'=>hne (R.inj b' b e _ r hb' hφ (e'▸he) rfl)))
  (fun r' j hs=>by have:=R.stLt r' j hs;simpa using this) (fun r' j hs=>.inl hs)
  (fun r' he b' e hne hb' he'=>by simp[Ent.has]at he;subst he;exact hne (R.inj b' b e _ r hb' hφ he' rfl))
  (by
   rw[hput];refine⟨hN,_,arr',elem,rfl,setRow_heap w r arr arr' elem.1 elem.2 hw,⟨hsl,hz⟩,by rw[xXw _ _ _ hl];omega,fun j c hc=>?_,fun j=>R.stOwn b r base size j hφ⟩
   rw[wX6 _ _ _ hl]at hc;have hga:∀k:Nat,arr'[k]?=(zQd arr.toList (base+off) vs)[k]?:=fun k=>by show(zQd arr.toList (base+off) vs).toArray[k]?=_;simp
   rw[hga,zWl _ _ _ (by simp;omega)]
   by_cases c1:j<off
   ·rw[Qf c1]at hc
    rw[Qf (by omega)]
    obtain⟨v,hv',hr⟩:=h3 j c hc;exact⟨v,by simpa using hv',hr.mono m⟩
   ·rw[Qi c1]at hc
    rw[Qi (by omega)]
    by_cases c2:j<off+news.length
    ·rw[Qf c2]at hc
     rw[Qf (by omega),show base+j-(base+off)=j-off by omega]
     obtain⟨v,hv',hr⟩:=hv.get (j-off) c hc;exact⟨v,hv',hr.mono m⟩
    ·rw[Qi c2]at hc
     rw[Qi (by omega)]
     obtain⟨v,hv',hr⟩:=h3 j c hc;exact⟨v,by simpa using hv',hr.mono m⟩)
 rwa [hput]at this
def wYk(ty:Ty)(h:Heap)(t:TypeId)(d s:CV):Option (CV×Heap):=
 match ty t with
 | some i=>match i.desc with
  | .slice e=>match ty e,d,s with
   | some j, .sref esz b off len _ _, .sref esz2 b2 off2 len2 _ _=>match h[b]?,h[b2]? with
    | some (.cells cs),some (.cells cs2)=>
     if esz=j.size∧esz2=j.size∧off2+min len2 len*j.size≤cs2.length∧off≤cs.length∧((cs2.drop off2).take (min len2 len*j.size)).all CV.one=true then
      some (.int .i64 (min len2 len:Nat),h.set b (.cells (zQd cs off ((cs2.drop off2).take (min len2 len*j.size)))))
     else none
    |_,_=>none
   |_,_,_=>none
  |_=>none
 |none=>none
def yJ3(ty:Ty)(h:Heap)(t u:TypeId)(s x:CV):Option (CV×Heap):=
 match ty t,ty u with
 | some i,some iu=>
  match i.desc with
  | .slice e=>
   match ty e with
   | some j=>
    if 2^30<j.bytes then none else
    match appW h j iu.desc x,srcE h j s,s with
    | some ys,some xs, .sref esz b off len cap ex=>match h[b]? with
     |some (.cells cs)=>
      if 2^44<(xs.length+ys.length)*(j.bytes+1)∨!(((xs++ys).flatMap CV.flat).all CV.one)then none else
      if len+ys.length≤cap then some (.sref esz b off (len+ys.length) cap ex,h.set b (.cells (zQd cs (off+len*esz) (ys.flatMap CV.flat))))
      else if ex=true then some (.sref j.size h.length 0 (xs.length+ys.length) (xs.length+ys.length) false,h++[.cells ((xs++ys).flatMap CV.flat)])else none
     |_=>none
    |_,_,_=>none
   |none=>none
  |_=>none
 |_,_=>none
section
variable {P:Program} {N:Nat} {φ:Phi} {St:Stab} {h:Heap} {w:World}
variable {ty:Ty} (hty:ty.Ok P) (R:Rel N φ St h w)
include hty R
theorem vJx{t u t0:TypeId}{d s c:CV}{h':Heap}(hc:wYk ty h t d s=some (c,h')){vd vs:Value}(hd:VR φ St w d vd)(hs:VR φ St w s vs):
  OpOk P N φ St h w (Builtin.copy_ #[t,u] t0 #[vd,vs]) c h':=by
 unfold wYk at hc;split at hc<;>(try (simp at hc;done))
 rename_i i hi;have hu:=zWv hty hi w;split at hc<;>(try (simp at hc;done))
 rename_i e hd1;rw[hd1]at hu;split at hc<;>(try (simp at hc;done))
 rename_i j esz b off len cap ex esz2 b2 off2 len2 cap2 ex2 hj;split at hc<;>(try (simp at hc;done))
 rename_i cs cs2 hb hb2;split at hc<;>(try (simp at hc;done))
 rename_i hcond;obtain⟨rfl,rfl,hl1,hl2,hone⟩:=hcond;simp only[Qa,Je]at hc;obtain⟨rfl,rfl⟩:=hc;obtain⟨r,base,size,rcap,hφ,rfl,k1,k2,k3,k4⟩:=zQn R hd (by simp[live,hb])
 obtain⟨r2,base2,size2,rcap2,hφ2,rfl,q1,q2,q3,q4⟩:=zQn R hs (by simp[live,hb2])
 obtain⟨nvs,hnv,hnl,hcell⟩:=R.cells hφ2 hb2 off2 (min len2 len*j.size) hl1;have hcells:(Builtin.firstCells j.size (min len2 len) (.slice (some ⟨r2,base2+off2,none⟩) len2 rcap2)).run P w=.ok nvs.toArray w:=by
  have:=zKl P w ⟨r2,base2+off2,none⟩ nvs (fun i u hu=>by rw[zKw];exact hcell i u hu)
  rw[hnl]at this;simpa[Builtin.firstCells]using this
 have hnews:((cs2.drop off2).take (min len2 len*j.size)).length=min len2 len*j.size:=by
  rw[Jf,J6];omega
 have hm:min len2 len*j.size≤rcap*j.size:=Qn _ (by omega)
 obtain⟨w',hst,R',F⟩:=R.vYi P hφ hb off ((cs2.drop off2).take (min len2 len*j.size)) nvs hnv (by rw[Qq]at hone;exact hone) hl2 (by rw[hnews];omega)
 refine⟨.int .i64 (min len2 len:Nat),w',φ,St, ?_,R', .int _ _,F⟩;simp[Builtin.copy_,hu,Builtin.lenOf,zQ0 hty hj,show Nat.min len2 len=min len2 len from rfl,hcells,hst,goInt]
theorem wYt{t u t0:TypeId}{s x c:CV}{h':Heap}(hc:yJ3 ty h t u s x=some (c,h')){vs vx:Value}(hs:VR φ St w s vs)(hx:VR φ St w x vx):
  OpOk P N φ St h w (Builtin.append_ #[t,u] t0 #[vs,vx]) c h':=by
 unfold yJ3 at hc;split at hc<;>(try (simp at hc;done))
 rename_i i iu hti htu;have hut:=(hty _ _ hti).und;have huu:=(hty _ _ htu).und;split at hc<;>(try (simp at hc;done))
 rename_i e hd;rw[hd]at hut;split at hc<;>(try (simp at hc;done))
 rename_i j hj;obtain⟨inf,z,g1,g2,g3,g4,g5,g6,_,g8⟩:=(hty e j hj).info;split at hc<;>(try (simp at hc;done))
 rename_i hcond;have hby:inf.bytes≤2^30:=by omega
 split at hc<;>(try (simp at hc;done))
 rename_i ys xs esz b off len cap ex hys hxs;obtain⟨ys0,hys0,hyl,hyv,hyz⟩:=vZs (z:=z) hty R hj g2 g3 hys;obtain⟨nvs,hnv0,hns0,hnsz0⟩:=wZs hty R hj g2 g3 g5 g6 g8 hys0 hx
 have hnv:=hyv _ hnv0;have hnsz:=hyz hnsz0;have hns:=hns0;rw[←hyl]at hns;obtain⟨ovs,hov,hos,hosz⟩:=yJb hty R hj hxs hs;rw[←g2]at hos;have hzs:z.cells.size=inf.size:=by
  have:=(zZ9 (φ:=φ) (St:=St) (w:=w) g5).length;rw[←Jk];omega
 split at hc<;>(try (simp at hc;done))
 rename_i cs hb;split at hc<;>(try (simp at hc;done))
 rename_i hbig;simp only[not_or,Nat.not_lt]at hbig;obtain⟨hbig,hone⟩:=hbig;replace hone:((xs++ys).flatMap CV.flat).all CV.one=true:=by simpa using hone
 have hsr:esz=j.size∧off+len*esz≤cs.length∧xs.length=len:=by
  simp only[srcE]at hxs;split at hxs<;>(try (simp at hxs;done))
  rename_i cs' hb';rw[hb]at hb';simp at hb';subst hb';split at hxs<;>(try (simp at hxs;done))
  rename_i hh;simp at hxs;exact⟨hh.1,hh.2.1,by rw[←hxs,zXr]⟩
 obtain⟨rfl,hle,rfl⟩:=hsr;obtain⟨r,base,size,rcap,hφ,rfl,k1,k2,k3,k4⟩:=zQn R hs (by simp[live,hb])
 have hnone:∀c∈ys.flatMap CV.flat,c.one=true:=by
  intro c hc';rw[Qq]at hone;exact hone c (by rw[Kb];exact Qy.2 (.inr hc'))
 have hb44:xs.length+ys.length≤2^44:=by
  rcases Nat.eq_zero_or_pos (xs.length+ys.length)with h0|h0
  ·omega
  ·have:=Nat.le_mul_of_pos_right (xs.length+ys.length) (show 0<j.bytes+1 by omega)
   omega
 have hyfl:(ys.flatMap CV.flat).length=ys.length*j.size:=zX2 _ hnsz;split at hc
 ·rename_i hroom
  simp only[Qa,Je]at hc;obtain⟨rfl,rfl⟩:=hc;have hin':(xs.length+ys.length)*j.size≤rcap*j.size:=Qn _ (by omega)
  rw[Qz]at hin';obtain⟨w',hst,R',F⟩:=R.vYi P hφ hb (off+xs.length*j.size) (ys.flatMap CV.flat) nvs hnv hnone hle (by rw[hyfl];omega)
  have hp:(⟨r,base+off,none⟩:Addr).add (xs.length*inf.size)=⟨r,base+(off+xs.length*j.size),none⟩:=by rw[zKw,g2,Jp]
  have hrun:=zK2 (ty0:=t0) (base:=some ⟨r,base+off,none⟩) (sLen:=xs.length) (sCap:=rcap) hut g1 g4 huu hns (by omega) (w':=w') (fun a'' ha''=>by simp at ha'';subst ha'';rw[hp];exact hst) (by simp)
  exact⟨_,w',φ,St,hrun,R', .sref _ _ _ _ _ _ r base size rcap hφ k1 hroom k3 k4,F⟩
 ·rename_i hroom
  split at hc<;>(try (simp at hc;done))
  rename_i hex;simp only[Qa,Je]at hc;obtain⟨rfl,rfl⟩:=hc;have hrc:=k3 hex;have hall:VRL φ St w ((xs++ys).flatMap CV.flat) (ovs++nvs):=by rw[Kb];exact hov.append hnv
  have hallen:(ovs++nvs).length=(xs.length+ys.length)*j.size:=by
   rw[Q5,hos.total,hns.total,←Qz,g2]
  have hrestsz:∀nc,(Builtin.zeroCells z.cells (nc-(xs.length+ys.length))).size=(nc-(xs.length+ys.length))*j.size:=by
   intro nc;rw[size_zeroCells,hzs,g2]
  obtain⟨nc,n1,hrun⟩:=yQw (ty0:=t0) (base:=some ⟨r,base+off,none⟩) (sCap:=rcap) hut g1 g4 huu hos hns (by omega) hb44 (by
   rw[g3];have:=Nat.mul_le_mul_left (xs.length+ys.length) (show j.bytes≤j.bytes+1 by omega)
   omega) hby
  obtain⟨φ',R',V',F'⟩:=xK7 R (size:=j.size) (n:=xs.length+ys.length) (nc:=nc) (e:=e) hall hallen n1 (hrestsz nc);refine⟨_,_,φ',St,by rw[hrun];simp, ?_,V',F'⟩
  exact R'
end
end Go.Eng
/- What is read of a heap is read of a greater one. -/
namespace Go.Eng
set_option linter.unusedVariables false
def Sub(h H:Heap):Prop:=∀(b:Nat) (o:HObj),h[b]?=some o→H[b]?=some o
theorem Sub.refl(h:Heap):Sub h h:=fun _ _ x=>x
theorem Sub.trans{a b c:Heap}(x:Sub a b)(y:Sub b c):Sub a c:=fun i o h=>y i o (x i o h)
theorem Sub.append(h x:Heap):Sub h (h++x):=fun b o hb=>by
 rw[Qb (List.getElem?_eq_some_iff.1 hb).1];exact hb
section
variable {h H:Heap} (s:Sub h H)
include s
theorem zXu{b:Nat}(hl:live h b=true):live H b=true:=by
 unfold live at hl⊢;split at hl<;>(try (simp at hl;done))
 rename_i o h1 h2;rw[s b o h2];cases o<;>first|rfl|exact(h1 rfl).elim
theorem zJ8{b k gen:Nat}{cs:List CV}(e:rowG h b k gen=some cs):rowG H b k gen=some cs:=by
 obtain⟨css,h1,h2,h3⟩:=zJf e;unfold rowG;rw[s b _ h1];simp only[h2,h3,if_true]
theorem vWc{b k gen:Nat}(e:(rowG h b k gen).isSome=true):(rowG H b k gen).isSome=true:=by
 obtain⟨cs,hc⟩:=Wh.1 e;rw[zJ8 s hc];rfl
theorem yXe{ty:Ty}{t:TypeId}{x c:CV}{f:Nat}(hc:zXo ty h t x f=some c):zXo ty H t x f=some c:=by
 unfold zXo at hc⊢;cases x<;>try exact hc
 ·rename_i b off
  dsimp only at hc⊢;cases hl:live h b with
  |false=>simp[hl]at hc;(repeat' split at hc)<;>simp_all
  |true=>simp only[hl]at hc;simp only[zXu s hl];exact hc
 ·rename_i b k off gen
  dsimp only at hc⊢;cases hl:rowG h b k gen with
  |none=>simp[hl]at hc;(repeat' split at hc)<;>simp_all
  |some cs=>simp only[hl]at hc;simp only[zJ8 s hl];exact hc
theorem yXb{ty:Ty}{t:TypeId}{x i c:CV}(hc:zXg ty h t x i=some c):zXg ty H t x i=some c:=by
 unfold zXg at hc⊢;cases x<;>try exact hc
 ·rename_i b off
  dsimp only at hc⊢;cases hl:live h b with
  |false=>simp[hl]at hc;(repeat' split at hc)<;>simp_all
  |true=>simp only[hl]at hc;simp only[zXu s hl];exact hc
 ·rename_i e b off len cap ex
  dsimp only at hc⊢;cases hl:live h b with
  |false=>simp[hl]at hc;(repeat' split at hc)<;>simp_all
  |true=>simp only[hl]at hc;simp only[zXu s hl];exact hc
 ·rename_i e b k off len gen
  dsimp only at hc⊢;cases hl:rowG h b k gen with
  |none=>simp[hl]at hc;(repeat' split at hc)<;>simp_all
  |some cs=>simp only[hl]at hc;simp only[zJ8 s hl];exact hc
theorem xZr{ty:Ty}{t:TypeId}{x c:CV}(hc:yJs ty h t x=some c):yJs ty H t x=some c:=by
 unfold yJs at hc⊢;cases x<;>try exact hc
 ·rename_i b off
  cases hb:h[b]? with
  |none=>simp[hb]at hc;split at hc<;>simp_all
  |some o=>simp only[hb]at hc;simp only[s b o hb];exact hc
 ·rename_i b k off gen
  cases hl:rowG h b k gen with
  |none=>simp[hl]at hc;split at hc<;>simp_all
  |some cs=>simp only[hl]at hc;simp only[zJ8 s hl];exact hc
theorem yZk{x c:CV}(hc:zW6 h x=some c):zW6 H x=some c:=by
 unfold zW6 at hc⊢;cases x<;>try exact hc
 ·rename_i b off
  cases hl:live h b with
  |false=>simp[hl]at hc
  |true=>simpa[zXu s hl,hl]using hc
 ·rename_i b k off gen
  cases hl:rowG h b k gen with
  |none=>simp[hl]at hc
  |some cs=>simpa[zJ8 s hl,hl]using hc
theorem wZm{d:TypeDesc}{yn:Bool}{a b:CV}{r:Bool}(hc:yXi h d yn a b=some r):yXi H d yn a b=some r:=by
  unfold yXi at hc⊢;split at hc
  all_goals first
    |exact hc
    |(simp at hc;simp[zXu s hc.1,hc.2];done)
    |(simp at hc;simp[hc.1.1,zXu s hc.1.2,hc.2];done)
    | (simp only[Option.ite_none_right_eq_some,Qc,decide_eq_true_eq,Wh,Qa]at hc⊢
       obtain⟨⟨h1,⟨cs,h2⟩,h3⟩,h4⟩:=hc;exact⟨⟨h1,⟨cs,zJ8 s h2⟩,h3⟩,h4⟩)
    |(simp at hc;done)
theorem wJk{ty:Ty}{t:TypeId}{x y:Bool}{a b:CV}{r:Bool}(hc:eqC ty h t x y a b=some r):eqC ty H t x y a b=some r:=by
 unfold eqC at hc⊢;split at hc
 ·simp at hc
 ·split at hc
  all_goals first
   |exact hc
   |exact wZm s hc
theorem wWk{ty:Ty}{op:BinOp}{t:TypeId}{x y:Bool}{a b c:CV}(hc:binC ty h op t x y a b=some c):binC ty H op t x y a b=some c:=by
 unfold binC at hc⊢;split at hc
 ·exact hc
 ·exact hc
 ·split at hc
  ·cases hr:eqC ty h t x y a b with
   |none=>simp[hr]at hc
   |some r=>rw[hr]at hc;rw[wJk s hr];exact hc
  ·cases hr:eqC ty h t x y a b with
   |none=>simp[hr]at hc
   |some r=>rw[hr]at hc;rw[wJk s hr];exact hc
  ·exact hc
theorem vQu{j:TI}{x:CV}{ys:List CV}(hc:srcE h j x=some ys):srcE H j x=some ys:=by
 unfold srcE at hc⊢;cases x<;>try exact hc
 ·rename_i e b off len cap ex
  cases hb:h[b]? with
  |none=>simp[hb]at hc
  |some o=>simp only[hb]at hc;simp only[s b o hb];exact hc
 ·rename_i e b k off len gen
  cases hl:rowG h b k gen with
  |none=>simp[hl]at hc
  |some cs=>simp only[hl]at hc;simp only[zJ8 s hl];exact hc
theorem xZz{ty:Ty}{n:Nat}{t u:TypeId}{x:CV}{r:CV×Option HObj}(hc:yWj ty h n t u x=some r):yWj ty H n t u x=some r:=by
  unfold yWj at hc⊢;split at hc<;>(try (simp at hc;done))
  split at hc
  all_goals first
    |exact hc
    | (split at hc<;>(try (simp at hc;done))
       split at hc<;>(try (simp at hc;done))
       split at hc<;>(try (simp at hc;done))
       split at hc<;>(try (simp at hc;done))
       rename_i xs hxs;simp only[vQu s hxs];exact hc)
    | (simp only[Option.ite_none_right_eq_some]at hc
       rw[Qf ⟨hc.1.1,zXu s hc.1.2⟩];exact hc.2)
    |(simp at hc;done)
theorem xQw{ty:Ty}{t:TypeId}{x c:CV}{lo hi mx:Option CV}(hc:zXq ty h t x lo hi mx=some c):zXq ty H t x lo hi mx=some c:=by
 unfold zXq at hc⊢;cases ht:ty t with
 |none=>simp[ht]at hc
 | some i=>
  simp only[ht]at hc⊢;split at hc
  ·exact hc
  ·exact hc
  ·rename_i e esz b off len cap ex hd
   cases hl:live h b with
   |false=>simp[hl]at hc;split at hc<;>simp_all
   |true=>simp only[hl]at hc;simp only[zXu s hl];exact hc
  ·rename_i e esz b k off len gen hd
   cases hl:(rowG h b k gen).isSome with
   |false=>simp[hl]at hc;split at hc<;>simp_all
   |true=>simp only[hl]at hc;simp only[vWc s hl];exact hc
  ·rename_i n e b off hd
   cases hb:h[b]? with
   |none=>simp[hb]at hc
   |some o=>simp only[hb]at hc;simp only[s b o hb];exact hc
  ·exact hc
  ·simp at hc
theorem vW9{ty:Ty}{t:TypeId}{x c:CV}(hc:lenC ty h t x=some c):lenC ty H t x=some c:=by
  unfold lenC at hc⊢;cases ht:ty t with
  |none=>simp[ht]at hc
  | some i=>
    simp only[ht]at hc⊢;split at hc
    all_goals first
      |exact hc
      |(simp at hc;simp[zXu s hc.1,hc.2];done)
      | (rename_i b len cap ex hd
         cases hl:live h b with
         |false=>simp[hl]at hc
         |true=>simp only[hl]at hc;simp only[zXu s hl];exact hc)
      | (rename_i b hd
         cases hb:h[b]? with
         |none=>simp[hb]at hc
         |some o=>simp only[hb]at hc;simp only[s b o hb];exact hc)
      |(simp at hc;done)
theorem vZd{ty:Ty}{t:TypeId}{x c:CV}(hc:capC ty h t x=some c):capC ty H t x=some c:=by
  unfold capC at hc⊢;cases ht:ty t with
  |none=>simp[ht]at hc
  | some i=>
    simp only[ht]at hc⊢;split at hc
    all_goals first
      |exact hc
      |(simp at hc;simp[zXu s hc.1,hc.2];done)
      | (rename_i b len cap hd
         cases hl:live h b with
         |false=>simp[hl]at hc
         |true=>simp only[hl]at hc;simp only[zXu s hl];exact hc)
      |(simp at hc;done)
end
end Go.Eng
/- Maps, and what is left. -/
namespace Go.Eng
set_option linter.unusedVariables false
def zWt:CV:=.tuple []
theorem xX0(a:ByteArray):(a==a)=true:=by
 obtain⟨⟨x⟩⟩:=a;rw[beq_toListBytes];simp
theorem xXa{a b:ByteArray}(h:(a==b)=true):a=b:=by
 obtain⟨⟨x⟩⟩:=a;obtain⟨⟨y⟩⟩:=b;rw[beq_toListBytes]at h;simpa[ByteArray.toList_eq]using h
def sapC(ty:Ty)(h:Heap)(t:TypeId)(x:CV):Option CV:=
 match ty t with
 | some i=>match i.desc with
  | .array n e=>match ty e with
   |some j=>match x with
    | .slice esz xs _ _=>if esz=j.size∧n≤xs.length∧0<n then some (.rop (.agg ((xs.take n).flatMap CV.flat)))else none
    | .sref esz b off len _ _=>if esz=j.size∧n≤len∧live h b then some (.ptr b off)else none
    |_=>none
   |none=>none
  |_=>none
 |none=>none
def maxC(gt:Bool):CV→List CV→Option CV
 | .int k a,[]=>some (.int k a)
 | .int k a, .int _ b::rest=>maxC gt (.int k (if gt then(if b>a then b else a)else(if b<a then b else a))) rest
 |_,_=>none
def zY2(k:CV):List (CV×CV)→Nat→Option (Option (Nat×CV))
 |[],_=>some none
 |(x,v)::es,i=>
  match k,x with
  | .int j a, .int j' b=>if j=j' then(if a==b then some (some (i,v))else zY2 k es (i+1))else none
  | .str a, .str b=>if a==b then some (some (i,v))else zY2 k es (i+1)
  |_,_=>none
def plainKey(d:TypeDesc)(k:CV):Bool:=
 match d,k with
 | .int _, .int _ _=>true
 | .string, .str _=>true
 |_,_=>false
def zYu(h:Heap)(m:CV):Option (List (CV×CV)):=
 match m with
 | .nilmap=>some []
 | .map b=>match h[b]? with
  |some (.map es)=>some es
  |_=>none
 |_=>none
def yQ4(ty:Ty)(h:Heap)(t:TypeId)(m k:CV)(ok:Bool):Option CV:=
 match ty t with
 | some i=>match i.desc with
  | .map kt e=>match ty kt,ty e with
   | some jk,some j=>
    if plainKey jk.desc k then
     match zYu h m with
     |some es=>match zY2 k es 0 with
      |some (some (_,v))=>some (if ok then .tuple [v, .bool true]else v)
      |some none=>(zeroV j).map fun z=>if ok then .tuple [z, .bool false]else z
      |none=>none
     |none=>none
    else none
   |_,_=>none
  |_=>none
 |none=>none
def zKf(ty:Ty)(h:Heap)(t:TypeId)(m k v:CV):Option Heap:=
 match ty t,m with
 | some i, .map b=>match i.desc with
  | .map kt e=>match ty kt with
   | some jk=>
    if plainKey jk.desc k then
     match h[b]? with
     |some (.map es)=>match zY2 k es 0 with
      |some (some (n,_))=>some (h.set b (.map (es.set n (k,v))))
      |some none=>some (h.set b (.map (es++[(k,v)])))
      |none=>none
     |_=>none
    else none
   |none=>none
  |_=>none
 |_,_=>none
theorem xZo{α β:Type}(ms:Array α)(n:Nat)(f:α→α)(g:α→β)(x:β)(hx:∀e,g (f e)=x):(ms.modify n f).toList.map g=(ms.toList.map g).set n x:=by
 apply Jy;intro i;simp only[Qt,K3,Array.getElem?_modify,Wt,Qh];by_cases hni:n=i
 ·rw[Qf hni,Qf hni]
  cases hn:ms[i]? with
  |none=>
   have:¬i<ms.size:=by simpa using hn
   simp[hni];omega
  |some e=>
   have:i<ms.size:=(Array.getElem?_eq_some_iff.1 hn).1;simp[hni,hx];omega
 ·rw[Qi hni,Qi hni]
def IsMap(w:World)(m:Value)(es:Array MapEntry):Prop:=
 (m=.map none∧es=#[])∨∃r clock,m=.map (some r)∧w.heap[r]?=some (.map es clock)
section
variable {P:Program} {N:Nat} {φ:Phi} {St:Stab} {h:Heap} {w:World}
theorem wXt(gt:Bool):∀(xs:List CV) (x c:CV) (v:Value) (vs:List Value),maxC gt x xs=some c→VR φ St w x v→VRL φ St w xs vs→
  ∃r,(vs.foldlM (if gt then Builtin.max2 else Builtin.min2) v).run P w=.ok r w∧VR φ St w c r
 |[],x,c,v,vs,hc,hx,hv=>by
  cases hv;unfold maxC at hc;split at hc<;>(try (simp at hc;done))
  ·simp at hc;subst hc;exact⟨v,rfl,hx⟩
  ·rename_i heq;simp at heq
 | y::xs,x,c,v,vs,hc,hx,hv=>by
  cases hv with|cons _ u _ us h1 h2=>
  unfold maxC at hc;split at hc<;>(try (simp at hc;done))
  ·rename_i heq;simp at heq
  ·rename_i k a k' b rest heq
   simp at heq;obtain⟨rfl,rfl⟩:=heq;cases hx;cases h1;obtain⟨r,g1,g2⟩:=wXt gt _ _ c _ us hc (.int _ _) h2;refine⟨r, ?_,g2⟩;rw[List.foldlM_cons];cases gt<;>simpa[Builtin.max2,Builtin.min2]using g1
section
variable {ty:Ty} (hty:ty.Ok P) (R:Rel N φ St h w)
include hty R
theorem uQ2{t:TypeId}{x c:CV}(hc:sapC ty h t x=some c){v:Value}(hx:VR φ St w x v):∃r,(Instr.arrayAt t v).run P w=.ok r w∧VR φ St w c r:=by
 unfold sapC at hc;split at hc<;>(try (simp at hc;done))
 rename_i i hi;have hu:=zWv hty hi w;split at hc<;>(try (simp at hc;done))
 rename_i n e hd;rw[hd]at hu;split at hc<;>(try (simp at hc;done))
 rename_i j hj;split at hc<;>(try (simp at hc;done))
 ·rename_i esz xs tok full
  split at hc<;>(try (simp at hc;done))
  rename_i hcond;obtain⟨rfl,hn,hn0⟩:=hcond;simp at hc;subst hc;cases hx with|slice _ _ _ _ a cap vs hat hvs hsz hcap hfull htok=>
  rcases hat with rfl|⟨a',rfl,hat⟩
  ·simp at hn;omega
  ·refine⟨.pointer (some a'),by simp[Instr.arrayAt,hu,show¬xs.length<n by omega], .rop _ a' (vs.take (n*j.size)) ?_ ?_⟩
   ·have:=hat.sub 0 (n*j.size);simpa[Addr.add]using this
   ·show VRL φ St w ((xs.take n).flatMap CV.flat) _
    rw[yXd _ _ hsz];exact hvs.take _
 ·rename_i esz b off len cap ex
  split at hc<;>(try (simp at hc;done))
  rename_i hcond;obtain⟨rfl,hn,hl⟩:=hcond;simp at hc;subst hc;obtain⟨r,base,size,rcap,hφ,rfl,_⟩:=zQn R hx hl;exact⟨.pointer (some ⟨r,base+off,none⟩),by simp[Instr.arrayAt,hu,show¬len<n by omega], .ptr _ _ _ _ _ hφ⟩
omit hty R in
theorem yQh(d:TypeDesc){k:CV}(hk:plainKey d k=true){vk:Value}(hvk:VR φ St w k vk):∀(es:List (CV×CV)) (ms:List MapEntry) (i:Nat) (r:Option (Nat×CV)),zY2 k es i=some r→
  VRL φ St w (es.map (·.1)) (ms.map (·.key))→VRL φ St w (es.map (·.2)) (ms.map (·.val))→
  (r=none∧Instr.findNow d vk ms i=some none)∨(∃n c v,r=some (n,c)∧Instr.findNow d vk ms i=some (some (n,v))∧VR φ St w c v∧i≤n∧n<i+es.length∧∃e,ms[n-i]?=some e∧e.key=vk)
 |[],ms,i,r,h,h1,h2=>by
  simp[zY2]at h;subst h;cases ms with
  |nil=>exact .inl ⟨rfl,rfl⟩
  |cons m ms=>simp at h1;cases h1
 |(x,v)::es,[],i,r,h,h1,h2=>by simp at h1;cases h1
 | (x,v)::es,m::ms,i,r,h,h1,h2=>by
  simp only[Qg]at h1 h2;cases h1 with|cons _ _ _ _ a1 a2=>
  cases h2 with|cons _ _ _ _ b1 b2=>
  have go:∀{r},zY2 k es (i+1)=some r→(r=none∧Instr.findNow d vk ms (i+1)=some none)∨(∃n c v,r=some (n,c)∧Instr.findNow d vk ms (i+1)=some (some (n,v))∧VR φ St w c v∧i≤n∧n<i+(es.length+1)∧∃e,(m::ms)[n-i]?=some e∧e.key=vk):=by
   intro r hr;rcases yQh d hk hvk es ms (i+1) r hr a2 b2 with⟨e1,e2⟩|⟨n,c,v,e1,e2,e3,e4,e5,e,e6,e7⟩
   ·exact .inl ⟨e1,e2⟩
   ·exact .inr ⟨n,c,v,e1,e2,e3,by omega,by omega,e,by rw[show n-i=(n-(i+1))+1 by omega];simpa using e6,e7⟩
  unfold zY2 at h;split at h<;>(try (simp at h;done))
  ·rename_i j a j' b
   cases hvk;generalize hmk:m.key=mk at a1;cases a1;split at h<;>(try (simp at h;done))
   rename_i hj;subst hj;cases d<;>simp[plainKey]at hk;split at h
   ·rename_i hab
    simp at h;subst h;refine .inr ⟨i,v,m.val,rfl, ?_,b1,Qe _,by simp,m,by simp,by rw[hmk];simp at hab;rw[hab]⟩
    simp[Instr.findNow,Instr.sameNow,hmk,hab]
   ·rename_i hab
    rcases go h with⟨e1,e2⟩|⟨n,c,v',e1,e2,e3⟩
    ·exact .inl ⟨e1,by simpa[Instr.findNow,Instr.sameNow,hmk,hab]using e2⟩
    ·exact .inr ⟨n,c,v',e1,by simpa[Instr.findNow,Instr.sameNow,hmk,hab]using e2,e3⟩
  ·rename_i a b
   cases hvk with|str _ ta ha=>
   generalize hmk:m.key=mk at a1;cases a1 with|str _ tb hb=>
   cases d<;>simp[plainKey]at hk;have hbe:(ta==tb)=(a==b):=by subst ha;subst hb;obtain⟨⟨x⟩⟩:=ta;obtain⟨⟨y⟩⟩:=tb;rw[beq_toListBytes];simp[ByteArray.toList_eq]
   split at h
   ·rename_i hab
    simp at h;subst h;have hee:ta=tb:=by
     have:(ta==tb)=true:=by rw[hbe,hab]
     exact xXa this
    refine .inr ⟨i,v,m.val,rfl, ?_,b1,Qe _,by simp,m,by simp,by rw[hmk,hee]⟩
    simp[Instr.findNow,Instr.sameNow,hmk,hbe,hab]
   ·rename_i hab
    have hab':(a==b)=false:=by simpa using hab
    rcases go h with⟨e1,e2⟩|⟨n,c,v',e1,e2,e3⟩
    ·exact .inl ⟨e1,by simpa[Instr.findNow,Instr.sameNow,hmk,hbe,hab']using e2⟩
    ·exact .inr ⟨n,c,v',e1,by simpa[Instr.findNow,Instr.sameNow,hmk,hbe,hab']using e2,e3⟩
omit R in
theorem yKd{kt:TypeId}{jk:TI}(hjk:ty kt=some jk){k:CV}(hk:plainKey jk.desc k=true){vk:Value}(hvk:VR φ St w k vk)(e:Bool)(w':World):
  (Instr.checkKey e 10000 kt vk).run P w'=.ok () w':=by
 have hu:=zWv hty hjk w';rw[show(10000:Nat)=9999+1 from rfl]
 generalize 9999=D;cases hd:jk.desc<;>rw[hd]at hk hu<;>cases k<;>simp[plainKey]at hk<;>cases hvk<;>simp[Instr.checkKey,hu]
omit hty in
theorem wZe{m:CV}{es:List (CV×CV)}(hes:zYu h m=some es){vm:Value}(hm:VR φ St w m vm):
  ∃ms:Array MapEntry,IsMap w vm ms∧VRL φ St w (es.map (·.1)) (ms.toList.map (·.key))∧VRL φ St w (es.map (·.2)) (ms.toList.map (·.val)):=by
 unfold zYu at hes;split at hes<;>(try (simp at hes;done))
 ·simp at hes;subst hes;cases hm
  exact⟨#[], .inl ⟨rfl,rfl⟩, .nil, .nil⟩
 ·split at hes<;>(try (simp at hes;done))
  rename_i b _ es' hb;simp at hes;subst hes;obtain⟨r,hφ,rfl⟩:=yXn R hm (by simp[live,hb])
  obtain⟨_,o,O,ho,hw,hr⟩:=R.obj b r hφ;rw[hb]at ho;simp at ho;subst ho;cases hr with|map _ entries clock h1 h2=>
  exact⟨entries, .inr ⟨r,clock,rfl,hw⟩,h1,h2⟩
theorem wYf{t:TypeId}{m k c:CV}{ok:Bool}(hc:yQ4 ty h t m k ok=some c){vm vk:Value}(hm:VR φ St w m vm)(hk:VR φ St w k vk):
  ∃r,(Instr.lookup t vm vk ok).run P w=.ok r w∧VR φ St w c r:=by
 unfold yQ4 at hc;split at hc<;>(try (simp at hc;done))
 rename_i i hi;have hu:=zWv hty hi w;split at hc<;>(try (simp at hc;done))
 rename_i kt e hd;rw[hd]at hu;split at hc<;>(try (simp at hc;done))
 rename_i jk j hjk hj;have huk:=zWv hty hjk w;split at hc<;>(try (simp at hc;done))
 rename_i hpk;split at hc<;>(try (simp at hc;done))
 rename_i es hes;obtain⟨ms,hms,hv1,hv2⟩:=wZe R hes hm;have hck:=yKd (P:=P) hty hjk hpk hk ms.isEmpty w;have hrun:∀(x:Option (Nat×Value)),Instr.findNow jk.desc vk ms.toList 0=some x→(Instr.lookup t vm vk ok).run P w=((match x with
   |some (_,v)=>pure (v,true)
   |none=>do pure (←zeroValue e,false):Sem (Value×Bool)).run P w).andThen fun p w'=>.ok (if ok then .tuple #[p.1, .bool p.2]else p.1) w':=by
  intro x hx;rcases hms with⟨rfl,rfl⟩|⟨r,clock,rfl,hw⟩
  ·simp only[Instr.lookup,Sem.run_bind,hu,Result.andThen_ok,Sem.run_pure,hck,Instr.findKey,huk,hx]
   cases x<;>simp<;>cases(zeroValue e).run P w<;>rfl
  ·have hg:(getObj r).run P w= .ok (.map ms clock) w:=by simp[getObj,Sem.run,hw]
   simp only[Instr.lookup,Sem.run_bind,hu,Result.andThen_ok,Sem.run_pure,hg,hck,Instr.findKey,huk,hx];cases x<;>simp<;>cases(zeroValue e).run P w<;>rfl
 split at hc<;>(try (simp at hc;done))
 ·rename_i n v hkf
  simp only[Qa]at hc;subst hc;rcases yQh jk.desc hpk hk es ms.toList 0 _ hkf hv1 hv2 with⟨e1,_⟩|⟨n',c',v',e1,e2,e3,_⟩
  ·simp at e1
  ·simp at e1;obtain⟨rfl,rfl⟩:=e1
   refine⟨_,by rw[hrun _ e2];simp;rfl, ?_⟩
   cases ok
   ·exact e3
   ·exact .tuple _ [v', .bool true] (.cons _ _ _ _ e3 (.cons _ _ _ _ (.bool _) .nil))
 ·rename_i hkf
  cases hz:zeroV j with
  |none=>simp[hz]at hc
  | some zc=>
   simp[hz]at hc;subst hc;rcases yQh jk.desc hpk hk es ms.toList 0 _ hkf hv1 hv2 with⟨_,e2⟩|⟨n',c',v',e1,_⟩
   ·obtain⟨z,hzr,hzc,hzl,hzg⟩:=zJe hty hj w
    have hzv:VR φ St w zc z:=wZx hz hzc hzg;refine⟨_,by rw[hrun _ e2];simp[hzr];rfl, ?_⟩
    cases ok
    ·exact hzv
    ·exact .tuple _ [z, .bool false] (.cons _ _ _ _ hzv (.cons _ _ _ _ (.bool _) .nil))
   ·simp at e1
omit hty in
theorem Rel.putObj{b r:Nat}(hφ:φ b=some (.obj r))(o:HObj)(O:Obj)(ho:ObjRel φ St w o O):
  ∃w',(setObj r O).run P w=.ok () w'∧Rel N φ St (h.set b o) w'∧Frm h.length φ St w φ St w':=by
 obtain⟨hN,o0,O0,hh,hw,_⟩:=R.obj b r hφ;have hr:r<w.heap.size:=(Array.getElem?_eq_some_iff.1 hw).1;have hbl:=R.dom b _ hφ;have hput:φ.put b (.obj r)=φ:=by
  funext b'
  by_cases hb:b'=b
  ·subst hb;rw[zQg,hφ]
  ·rw[zQc _ _ _ _ hb]
 have hO0:=(R.obj b r hφ);have hc0:∀c e f,O0≠.cells c e f:=by
  obtain⟨_,o1,O1,_,hw1,hr1⟩:=hO0;rw[hw]at hw1;simp at hw1;subst hw1;exact hr1.wK1
 let w':World:={w with heap:=w.heap.setIfInBounds r O}
 have hw':w'.heap[r]?=some O:=by simp[w',hr]
 have hoth:∀r',r'≠r→w'.heap[r']?=w.heap[r']?:=fun r' hne=>by simp[w',Jw hne]
 have hrun:(setObj r O).run P w=.ok () w':=by
  simp only[setObj,Sem.run];rw[hw];cases O0<;>first|rfl|exact absurd rfl (hc0 _ _ _)
 have m:Mono φ St w φ St w':=by
  refine⟨fun _=>.refl _,fun _ _ hs=>hs,fun r' j hs=>?_⟩
  by_cases hne:r'=r
  ·subst hne
   have hc1:=ho.wK1;unfold World.cell?;simp only[hw',hw];cases O0<;>cases O<;>first|rfl|exact absurd rfl (hc0 _ _ _)|exact absurd rfl (hc1 _ _ _)
  ·exact World.cell?_of_block (hoth r' hne)
 refine⟨w',hrun, ?_,Frm.quiet m (by simp[w']) (fun r' hr' hn=>hoth r' fun e=>hn b _ hφ (by rw[e];rfl)) rfl rfl rfl⟩
 have:=R.change b (.obj r) o St (h.set b o) w' (by rw[hput];exact m) (by simp[w']) (by rw[Qk hbl]) (by simp)
  (fun b' e hne _=>by rw[Qd (Jw hne)])
  (fun b' e r' hne hb' he=>hoth r' fun e'=>by subst e';exact hne (R.inj b' b _ _ _ hb' hφ he rfl))
  (fun r' j hs=>by have:=R.stLt r' j hs;simp[w'];exact this) (fun _ _ hs=>.inl hs)
  (fun r' he b' e hne hb' he'=>by simp[Ent.has]at he;subst he;exact hne (R.inj b' b _ _ _ hb' hφ he' rfl))
  (by rw[hput];exact⟨hN,O,hw',ho.mono m⟩)
 rwa [hput]at this
theorem xJd{t:TypeId}{m k c:CV}{h':Heap}(hc:zKf ty h t m k c=some h'){vm vk vc:Value}(hm:VR φ St w m vm)(hk:VR φ St w k vk)(hv:VR φ St w c vc):
  ∃w',(Instr.mapUpdate t vm vk vc).run P w=.ok () w'∧Rel N φ St h' w'∧Frm h.length φ St w φ St w':=by
 unfold zKf at hc;split at hc<;>(try (simp at hc;done))
 rename_i _ _ i b hi;have hu:=zWv hty hi w;split at hc<;>(try (simp at hc;done))
 rename_i kt e hd;rw[hd]at hu;split at hc<;>(try (simp at hc;done))
 rename_i jk hjk;have huk:=zWv hty hjk w;split at hc<;>(try (simp at hc;done))
 rename_i hpk;split at hc<;>(try (simp at hc;done))
 rename_i es hes;obtain⟨r,hφ,rfl⟩:=yXn R hm (by simp[live,hes])
 obtain⟨_,o,O,ho,hw,hr⟩:=R.obj b r hφ;rw[hes]at ho;simp at ho;subst ho;cases hr with|map _ ms clock h1 h2=>
 have hg:(getObj r).run P w=.ok (.map ms clock) w:=by simp[getObj,Sem.run,hw]
 have hck:=yKd (P:=P) hty hjk hpk hk false w;split at hc<;>(try (simp at hc;done))
 ·rename_i n c0 hkf
  simp only[Qa]at hc;subst hc;rcases yQh jk.desc hpk hk es ms.toList 0 _ hkf h1 h2 with⟨e1,_⟩|⟨n',c',v',e1,e2,e3,_,e5,en,e6,e7⟩
  ·simp at e1
  ·simp at e1;obtain⟨rfl,rfl⟩:=e1
   simp at e6;have hkeep:∀w,(Instr.keyThatStays (((ms[n]?).map (·.key)).getD vk) vk).run P w=.ok vk w:=by
    intro w';rw[e6];simp only[Ju,Wn,e7];have:Instr.sameBits 10000 vk vk=true:=by
     cases hdd:jk.desc<;>rw[hdd]at hpk<;>cases k<;>simp[plainKey]at hpk<;>cases hk<;>simp[Instr.sameBits,xX0]
    simp[Instr.keyThatStays,this]
   obtain⟨w',g1,g2,g3⟩:=R.putObj (P:=P) hφ (.map (es.set n (k,c))) (.map (ms.modify n fun e=>{e with key:=vk,val:=vc}) clock) (by
    refine .map _ _ _ ?_ ?_
    ·have hx:(ms.modify n fun e=>{e with key:=vk,val:=vc}).toList.map (·.key)=(ms.toList.map (·.key)).set n vk:=xZo _ _ _ _ _ fun _=>rfl
     rw[hx,Jb];exact h1.set n hk
    ·have hx:(ms.modify n fun e=>{e with key:=vk,val:=vc}).toList.map (·.val)=(ms.toList.map (·.val)).set n vc:=xZo _ _ _ _ _ fun _=>rfl
     rw[hx,Jb];exact h2.set n hv)
   refine⟨w', ?_,g2,g3⟩;simp[Instr.mapUpdate,hu,hg,hck,Instr.findKey,huk,e2,hkeep];exact g1
 ·rename_i hkf
  simp only[Qa]at hc;subst hc;rcases yQh jk.desc hpk hk es ms.toList 0 _ hkf h1 h2 with⟨_,e2⟩|⟨n',c',v',e1,_⟩
  ·obtain⟨w',g1,g2,g3⟩:=R.putObj (P:=P) hφ (.map (es++[(k,c)])) (.map (ms.push {key:=vk,val:=vc,born:=clock}) (clock+1)) (by
    refine .map _ _ _ ?_ ?_
    ·simpa using h1.append (.cons _ _ _ _ hk .nil)
    ·simpa using h2.append (.cons _ _ _ _ hv .nil))
   refine⟨w', ?_,g2,g3⟩;simp[Instr.mapUpdate,hu,hg,hck,Instr.findKey,huk,e2];exact g1
  ·simp at e1
omit hty in
theorem xWl{n:Nat}(hn:φ n=none)(hh:h[n]?=some (.map [])){s:Sem Value}(hs:s.run P w=(do pure (.map (some (←newObj (.map #[] 0)))):Sem Value).run P w):yJ8 P N φ St h w n s (.map n):=by
 obtain⟨R',F⟩:=R.wJg hn (.obj w.heap.size) (.map []) (.map #[] 0) (fun _=>Iff.rfl) hh (by simp) (by simp) (fun r _=>.map [] #[] 0 .nil .nil) (by simp) (by simp)
 exact⟨.map (some w.heap.size),_,_,by rw[hs];simp[newObj,Sem.run],R', .map _ _ (zQg _ _ _),F,fun b hb=>zQc _ _ _ _ hb⟩
end
end
end Go.Eng
/- Operations that call nothing. -/
namespace Go.Eng
set_option linter.unusedVariables false
def vXe:TypeDesc→Bool
 | .map _ _=>true
 |_=>false
def boxC(n:Nat)(x:CV):Option (CV×Option HObj):=
 match x with
 | .junk=>none
 |v=>some (.ptr n 0,some (.cells v.flat))
def yQ3(ty:Ty)(n:Nat)(t:TypeId)(r:Option CV):Option (CV×Option HObj):=
 match r with
 |none=>some (.map n,some (.map []))
 |some x=>match x,ty t with
  | .int _ _,some i=>if vXe i.desc then some (.map n,some (.map []))else none
  |_,_=>none
def yW4(f:Fn)(xs ys:List CV):Option (CV×Option HObj):=
 match f with
 | .func g=>some (.func g xs ys,none)
 |_=>none
def rdC(x:Option CV):Option (CV×Option HObj):=x.map fun c=>(c,none)
def mkC(x:Option (CV×HObj)):Option (CV×Option HObj):=x.map fun p=>(p.1,some p.2)
def yXk(ty:Ty)(h:Heap)(ρ:Operand→CV)(cl:Call):Option CV:=
 match cl.callee with
 | .builtin .len=>match cl.args.toList,cl.argTypes.toList with
  |[x],[t]=>lenC ty h t (ρ x)
  |_,_=>none
 | .builtin .cap=>match cl.args.toList,cl.argTypes.toList with
  |[x],[t]=>capC ty h t (ρ x)
  |_,_=>none
 | .builtin .max=>match cl.args.toList with
  |x::xs=>maxC true (ρ x) (xs.map ρ)
  |[]=>none
 | .builtin .min=>match cl.args.toList with
  |x::xs=>maxC false (ρ x) (xs.map ρ)
  |[]=>none
 |_=>none
def opQ(ty:Ty)(h:Heap)(n:Nat)(ρ:Operand→CV)(o:Op):Option (CV×Option HObj):=
 match o with
 | .move x| .assign x=>some (ρ x,none)
 | .pick a b d=>rdC (wJ7 (ρ a) (ρ b) (ρ d))
 | .alloc t=>(ty t).map fun j=>(.ptr n 0,some (.cells j.zero))
 | .box _ x=>boxC n (ρ x)
 | .build t parts=>rdC (wWi ty t (parts.toList.map fun p=>(p.1,ρ p.2)))
 | .buildSlice t len parts=>mkC (zX3 ty n t len (parts.toList.map fun p=>(p.1,ρ p.2)))
 | .load t a=>rdC (yJs ty h t (ρ a))
 | .nilCheck x=>rdC (zW6 h (ρ x))
 | .binOp op t x y _=>rdC (binC ty h op t (isConst x||isConst y) (zZq y) (ρ x) (ρ y))
 | .unOp op _ x=>rdC (unC op (ρ x))
 | .convert s t x=>yWj ty h n s t (ρ x)
 | .sliceToArrayPointer t x=>rdC (sapC ty h t (ρ x))
 | .makeInterface t x=>rdC (yX2 ty t (ρ x))
 | .makeFunc f first captured=>yW4 f (first.toList.map ρ) (captured.toList.map ρ)
 | .makeMap t r=>yQ3 ty n t (r.map ρ)
 | .makeSlice t l m=>mkC (zX7 ty n t (ρ l) (ρ m))
 | .slice t x lo hi mx=>rdC (zXq ty h t (ρ x) (lo.map ρ) (hi.map ρ) (mx.map ρ))
 | .fieldAddr t x f=>rdC (zXo ty h t (ρ x) f)
 | .field t x f=>rdC (wQ9 ty t (ρ x) f)
 | .indexAddr t x i=>rdC (zXg ty h t (ρ x) (ρ i))
 | .index t x i=>rdC (xWr ty t (ρ x) (ρ i))
 | .lookup t m k ok=>rdC (yQ4 ty h t (ρ m) (ρ k) ok)
 | .typeAssert x _ t ok=>rdC (zJ4 ty (ρ x) t ok)
 | .extract x i=>rdC (yK0 (ρ x) i)
 | .call cl=>rdC (yXk ty h ρ cl)
 |_=>none
def wYc(ty:Ty)(t:TypeId):Bool:=
 match ty t with
 | some i=>(match i.desc with
  | .slice e=>(match ty e with
   |some j=>yXa j.desc
   |none=>false)
  |_=>false)
 |none=>false
def opL(ty:Ty)(lit:Nat)(h:Heap)(ρ:Operand→CV)(o:Op):Option (CV×Heap):=
 match o with
 | .store t a x=>(zY6 ty h t (ρ a) (ρ x)).map fun h'=>(zWt,h')
 | .mapUpdate t m k v=>(zKf ty h t (ρ m) (ρ k) (ρ v)).map fun h'=>(zWt,h')
 | .call cl=>match cl.callee,cl.args.toList,cl.argTypes.toList with
  | .builtin .append,[s,x],[t,u]=>(match lit with
   |0=>zYk false ty h t u (ρ s) (ρ x)
   |1=>zYk true ty h t u (ρ s) (ρ x)
   |5=>zYk (!wYc ty t) ty h t u (ρ s) (ρ x)
   |4=>yJ3 ty h t u (ρ s) (ρ x)
   |_=>yJ5 ty h t u (ρ s) (ρ x))
  | .builtin .clear,[s],[t]=>xW4 ty h t (ρ s)
  | .builtin .copy,[d,s],[t,_]=>(match lit with
   |4=>wYk ty h t (ρ d) (ρ s)
   |_=>wWb ty h t (ρ d) (ρ s))
  |_,_,_=>none
 |_=>none
theorem yJm {ty : Ty}{h:Heap}{n:Nat}{ρ:Operand→CV}{o:Op}{c:CV}{b:HObj}(hq:opQ ty h n ρ o=some (c,some b))(css:List (List CV)):b≠.rows css:=by
  rintro rfl;have convQ_norows:∀{s t:TypeId} {x:CV},yWj ty h n s t x≠some (c,some (.rows css)):=by
    intro s t x hx;unfold yWj at hx
    repeat' split at hx
    all_goals simp at hx
  have rd:∀{x:Option CV},rdC x≠some (c,some (.rows css)):=by
    intro x hx;cases x<;>simp[rdC]at hx
  cases o<;>simp only[opQ]at hq<;>(try (simp at hq;done))<;>(try (exact rd hq))
  case box=>unfold boxC at hq;split at hq<;>simp at hq
  case buildSlice t len parts=>
    unfold mkC zX3 at hq
    repeat' split at hq
    all_goals simp at hq
  case convert=>exact convQ_norows hq
  case makeFunc=>unfold yW4 at hq;split at hq<;>simp at hq
  case makeMap => unfold yQ3 at hq;repeat' split at hq
                  all_goals simp at hq
  case makeSlice => unfold mkC zX7 at hq;repeat' split at hq
                    all_goals simp at hq
section
variable {P:Program} {N:Nat} {φ:Phi} {St:Stab} {h H:Heap} {w:World} {ty:Ty}
theorem VRL.ops{ρ:Operand→CV}{ρv:Operand→Value}:∀{xs:List Operand},(∀x∈xs,VR φ St w (ρ x) (ρv x))→VRL φ St w (xs.map ρ) (xs.map ρv)
 |[],_=>.nil
 |x::xs,h=>.cons _ _ _ _ (h x (by simp)) (VRL.ops fun y hy=>h y (by simp[hy]))
theorem VRO.ops{ρ:Operand→CV}{ρv:Operand→Value}{x:Option Operand}(h:∀y,x=Option.some y→VR φ St w (ρ y) (ρv y)):VRO φ St w (x.map ρ) (x.map ρv):=by
 cases x with
 |none=>exact .none
 |some y=>exact .some _ _ (h y rfl)
def OpQ(P:Program)(N:Nat)(φ:Phi)(St:Stab)(H:Heap)(w:World)(n:Nat)(s:Sem Next)(c:CV):Prop:=
 ∃v w' φ',s.run P w=.ok (.value v) w'∧Rel N φ' St H w'∧VR φ' St w' c v∧Frm n φ St w φ' St w'∧∀b,b≠n→φ' b=φ b
theorem OpQ.zX0(R:Rel N φ St H w){n:Nat}{s:Sem Value}{c:CV}(h:∃r,s.run P w=.ok r w∧VR φ St w c r):OpQ P N φ St H w n (do pure (.value (←s))) c:=by
 obtain⟨r,h1,h2⟩:=h;exact⟨r,w,φ,by simp[h1],R,h2,Frm.refl _ _ _ _,fun _ _=>rfl⟩
theorem OpQ.xWh{n:Nat}{s:Sem Value}{c:CV}(h:yJ8 P N φ St H w n s c):OpQ P N φ St H w n (do pure (.value (←s))) c:=by
 obtain⟨r,w',φ',h1,h2⟩:=h;exact⟨r,w',φ',by simp[h1],h2⟩
theorem OpQ.yW2(R:Rel N φ St H w){n:Nat}{c:CV}{v:Value}(h:VR φ St w c v):OpQ P N φ St H w n (pure (.value v)) c:=
 ⟨v,w,φ,rfl,R,h,Frm.refl _ _ _ _,fun _ _=>rfl⟩
theorem zXe{x:Option CV}{c:CV}{o:Option HObj}(h:rdC x=some (c,o)):x=some c∧o=none:=by
 cases x<;>simp[rdC]at h;obtain⟨rfl,rfl⟩:=h;exact⟨rfl,rfl⟩
theorem yX1{x:Option (CV×HObj)}{c:CV}{o:Option HObj}(h:mkC x=some (c,o)):∃b,x=some (c,b)∧o=some b:=by
 cases x<;>simp[mkC]at h;obtain⟨rfl,rfl⟩:=h;exact⟨_,rfl,rfl⟩
theorem xY0(hs:Sub h H){t:TypeId}{x c:CV}(hc:sapC ty h t x=some c):sapC ty H t x=some c:=by
 unfold sapC at hc⊢;cases ht:ty t with
 |none=>simp[ht]at hc
 | some i=>
  simp only[ht]at hc⊢;split at hc<;>(try (simp at hc;done))
  split at hc<;>(try (simp at hc;done))
  split at hc<;>(try (simp at hc;done))
  ·exact hc
  ·split at hc<;>(try (simp at hc;done))
   rename_i hcond;obtain⟨h1,h2,h3⟩:=hcond;rw[Qf ⟨h1,h2,zXu hs h3⟩];exact hc
theorem xJ0(hs:Sub h H){m:CV}{es:List (CV×CV)}(hc:zYu h m=some es):zYu H m=some es:=by
 unfold zYu at hc⊢;split at hc<;>(try (simp at hc;done))
 ·exact hc
 ·split at hc<;>(try (simp at hc;done))
  rename_i hb;simp only[hs _ _ hb];exact hc
theorem yYl(hs:Sub h H){t:TypeId}{m k c:CV}{ok:Bool}(hc:yQ4 ty h t m k ok=some c):yQ4 ty H t m k ok=some c:=by
 unfold yQ4 at hc⊢;cases he:zYu h m with
 |none=>
  split at hc<;>(try (simp at hc;done))
  split at hc<;>(try (simp at hc;done))
  split at hc<;>(try (simp at hc;done))
  split at hc<;>(try (simp at hc;done))
  simp[he]at *
 |some es=>rw[xJ0 hs he];rw[he]at hc;exact hc
theorem xZ0(hs:Sub h H){ρ:Operand→CV}{cl:Call}{c:CV}(hc:yXk ty h ρ cl=some c):yXk ty H ρ cl=some c:=by
 unfold yXk at hc⊢;split at hc<;>(try (simp at hc;done))
 ·split at hc<;>(try (simp at hc;done))
  exact vW9 hs hc
 ·split at hc<;>(try (simp at hc;done))
  exact vZd hs hc
 ·exact hc
 ·exact hc
variable (hty:ty.Ok P) (R:Rel N φ St H w) (hs:Sub h H)
include hty R hs
theorem vJ7{ρ:Operand→CV}{ρv:Operand→Value}{cl:Call}{c:CV}(hc:yXk ty h ρ cl=some c)(hρ:∀x∈cl.operands,VR φ St w (ρ x) (ρv x))(t0:TypeId){n:Nat}:
  OpQ P N φ St H w n (do let d←resolve ρv cl t0;invoke d.target d.args) c:=by
 have hc:=xZ0 hs hc;have harg:∀x∈cl.args.toList,VR φ St w (ρ x) (ρv x):=fun x hx=>hρ x (by unfold Call.operands;simp;exact .inr (by simpa using hx))
 unfold yXk at hc;split at hc<;>(try (simp at hc;done))
 ·rename_i hcal
  split at hc<;>(try (simp at hc;done))
  rename_i x t hx ht;have ha:cl.args=#[x]:=by apply Ke;simpa using hx
  have hta:cl.argTypes=#[t]:=by apply Ke;simpa using ht
  have:=OpQ.zX0 (n:=n) R (uWy (t0:=t0) hty R hc (harg x (by simp[hx])))
  simpa[resolve,hcal,ha,hta,invoke,builtin]using this
 ·rename_i hcal
  split at hc<;>(try (simp at hc;done))
  rename_i x t hx ht;have ha:cl.args=#[x]:=by apply Ke;simpa using hx
  have hta:cl.argTypes=#[t]:=by apply Ke;simpa using ht
  have:=OpQ.zX0 (n:=n) R (uXn (t0:=t0) hty R hc (harg x (by simp[hx])))
  simpa[resolve,hcal,ha,hta,invoke,builtin]using this
 ·rename_i hcal
  split at hc<;>(try (simp at hc;done))
  rename_i x xs hx;have hv:=VRL.ops harg;rw[hx]at hv;cases hv with|cons _ _ _ _ h1 h2=>
  have ha:cl.args.toList=x::xs:=hx;have:=OpQ.zX0 (n:=n) R (wXt (P:=P) true _ _ _ _ _ hc h1 h2);simpa[resolve,hcal,invoke,builtin,Builtin.max_,ha]using this
 ·rename_i hcal
  split at hc<;>(try (simp at hc;done))
  rename_i x xs hx;have hv:=VRL.ops harg;rw[hx]at hv;cases hv with|cons _ _ _ _ h1 h2=>
  have ha:cl.args.toList=x::xs:=hx;have:=OpQ.zX0 (n:=n) R (wXt (P:=P) false _ _ _ _ _ hc h1 h2);simpa[resolve,hcal,invoke,builtin,Builtin.min_,ha]using this
theorem vYo{n:Nat}{ρ:Operand→CV}{ρv:Operand→Value}{o:Oper}{c:CV}{new:Option HObj}(hq:opQ ty h n ρ o.op=some (c,new))(hnew:∀b,new=some b→φ n=none∧H[n]? =some b)
  (hρ:∀x∈o.op.operands,VR φ St w (ρ x) (ρv x)) (hcst:∀v,ρv (.const v)=v):OpQ P N φ St H w n (execOp ρv o) c:=by
 unfold execOp;cases ho:o.op<;>rw[ho]at hq hρ<;>simp only[opQ]at hq<;>(try (simp at hq;done))<;>dsimp only
 case move x=>simp at hq;obtain⟨rfl,rfl⟩:=hq;exact OpQ.yW2 R (hρ x (by simp[Op.operands]))
 case assign x=>simp at hq;obtain⟨rfl,rfl⟩:=hq;exact OpQ.yW2 R (hρ x (by simp[Op.operands]))
 case pick a b d=>
  replace hq:=zXe hq;obtain⟨hq,rfl⟩:=hq;have h1:=hρ a (by simp[Op.operands])
  have h2:=hρ b (by simp[Op.operands])
  have h3:=hρ d (by simp[Op.operands])
  unfold wJ7 at hq;split at hq<;>(try (simp at hq;done))
  rename_i t ha;rw[ha]at h1;generalize ρv a=va at h1;cases h1;simp at hq;subst hq;cases t
  ·simpa[asBool]using OpQ.yW2 (n:=n) R h3
  ·simpa[asBool]using OpQ.yW2 (n:=n) R h2
 case alloc t=>
  cases hj:ty t with
  |none=>simp[hj]at hq
  |some j=>
   simp[hj]at hq;obtain⟨rfl,rfl⟩:=hq;obtain⟨hn,hh⟩:=hnew _ rfl;exact OpQ.xWh (vZx hty R hj hn hh)
 case box t x=>
  unfold boxC at hq;split at hq<;>(try (simp at hq;done))
  rename_i hj;simp at hq;obtain⟨rfl,rfl⟩:=hq;obtain⟨hn,hh⟩:=hnew _ rfl;exact OpQ.xWh (uXu R (hρ x (by simp[Op.operands])) hj hn hh)
 case build t parts=>
  replace hq:=zXe hq;obtain⟨hq,rfl⟩:=hq;exact OpQ.zX0 R (vZm hty (parts:=parts.toList.map fun p=>(p.1,ρ p.2)) (by simp[Wd]) (by
   have:=VRL.ops (xs:=parts.toList.map (·.2)) fun x hx=>hρ x (by simpa[Op.operands]using hx)
   simpa[Wd]using this) hq)
 case buildSlice t len parts=>
  replace hq:=yX1 hq;obtain⟨b,hq,rfl⟩:=hq;obtain⟨hn,hh⟩:=hnew _ rfl;exact OpQ.xWh (xX1 hty R (parts:=parts.toList.map fun p=>(p.1,ρ p.2)) (by simp[Wd]) (by
   have:=VRL.ops (xs:=parts.toList.map (·.2)) fun x hx=>hρ x (by simpa[Op.operands]using hx)
   simpa[Wd]using this) hq hn hh)
 case load t a=>
  replace hq:=zXe hq;obtain⟨hq,rfl⟩:=hq;exact OpQ.zX0 R (wK6 hty R (xZr hs hq) (hρ a (by simp[Op.operands])))
 case nilCheck x=>
  replace hq:=zXe hq;obtain⟨hq,rfl⟩:=hq;obtain⟨rfl,hx⟩:=wQn R (yZk hs hq) (hρ x (by simp[Op.operands]))
  have:=hx o ρv x ho rfl;unfold execOp at this;rw[ho]at this;exact⟨_,w,φ,this,R,hρ x (by simp[Op.operands]),Frm.refl _ _ _ _,fun _ _=>rfl⟩
 case binOp op t x y u=>
  replace hq:=zXe hq;obtain⟨hq,rfl⟩:=hq;exact OpQ.zX0 R (uXx hty R (wWk hs hq) (hρ x (by simp[Op.operands])) (hρ y (by simp[Op.operands])) (by
   intro hy;unfold zZq at hy;split at hy<;>(try (simp at hy;done))
   rw[hcst];exact⟨_,_,rfl⟩))
 case unOp op u x=>
  replace hq:=zXe hq;obtain⟨hq,rfl⟩:=hq;exact OpQ.zX0 R (unC_ok hq (hρ x (by simp[Op.operands])))
 case convert s t x=>exact OpQ.xWh (vJ1 hty R (xZz hs hq) hnew (hρ x (by simp[Op.operands])))
 case sliceToArrayPointer t x=>
  replace hq:=zXe hq;obtain⟨hq,rfl⟩:=hq;exact OpQ.zX0 R (uQ2 hty R (xY0 hs hq) (hρ x (by simp[Op.operands])))
 case makeInterface t x=>
  replace hq:=zXe hq;obtain⟨hq,rfl⟩:=hq;exact OpQ.zX0 R (xJh hty hq (hρ x (by simp[Op.operands])))
 case makeFunc f first captured=>
  unfold yW4 at hq;cases f<;>(try (simp at hq;done))
  rename_i f;simp at hq;obtain⟨rfl,rfl⟩:=hq;have h1:=VRL.ops (xs:=first.toList) fun x hx=>hρ x (by simp[Op.operands];exact .inl (by simpa using hx))
  have h2:=VRL.ops (xs:=captured.toList) fun x hx=>hρ x (by simp[Op.operands];exact .inr (by simpa using hx))
  refine OpQ.zX0 R ⟨_,rfl, ?_⟩;have:=VR.func (φ:=φ) (St:=St) (w:=w) f _ _ _ _ h1 h2
  rwa [show(first.toList.map ρv).toArray=first.map ρv from Ke (by simp),show(captured.toList.map ρv).toArray=captured.map ρv from Ke (by simp)]at this
 case makeMap t r=>
  unfold yQ3 at hq;split at hq<;>(try (simp at hq;done))
  ·rename_i hr
   simp at hq;obtain⟨rfl,rfl⟩:=hq;obtain⟨hn,hh⟩:=hnew _ rfl;cases r with
   |some _=>simp at hr
   |none=>exact OpQ.xWh (xWl R hn hh (by simp[Instr.makeMap]))
  ·rename_i x hr
   split at hq<;>(try (simp at hq;done))
   rename_i k a i hi;split at hq<;>(try (simp at hq;done))
   rename_i hm;simp at hq;obtain⟨rfl,rfl⟩:=hq;obtain⟨hn,hh⟩:=hnew _ rfl;cases r with
   |none=>simp at hr
   |some y=>
    simp at hr;have hy:=hρ y (by simp[Op.operands])
    rw[hr]at hy;generalize hvy:ρv y=vy at hy;cases hy;have hu:=zWv hty hi w;cases hd:i.desc<;>simp[hd,vXe]at hm;rw[hd]at hu;exact OpQ.xWh (xWl R hn hh (by simp[Instr.makeMap,hvy,hu,asInt,asIntOf]))
 case makeSlice t l m=>
  replace hq:=yX1 hq;obtain⟨b,hq,rfl⟩:=hq;obtain⟨hn,hh⟩:=hnew _ rfl;exact OpQ.xWh (xJf hty R (hρ l (by simp[Op.operands])) (hρ m (by simp[Op.operands])) hq hn hh)
 case slice t x lo hi mx=>
  replace hq:=zXe hq;obtain⟨hq,rfl⟩:=hq;exact OpQ.zX0 R (vQ9 hty R (xQw hs hq) (hρ x (by simp[Op.operands])) (VRO.ops fun y hy=>hρ y (by simp[Op.operands,hy])) (VRO.ops fun y hy=>hρ y (by simp[Op.operands,hy]))
   (VRO.ops fun y hy=>hρ y (by simp[Op.operands,hy])))
 case fieldAddr t x f=>
  replace hq:=zXe hq;obtain⟨hq,rfl⟩:=hq;exact OpQ.zX0 R (xJy hty R (yXe hs hq) (hρ x (by simp[Op.operands])))
 case field t x f=>
  replace hq:=zXe hq;obtain⟨hq,rfl⟩:=hq;exact OpQ.zX0 R (vXu hty hq (hρ x (by simp[Op.operands])))
 case indexAddr t x i=>
  replace hq:=zXe hq;obtain⟨hq,rfl⟩:=hq;exact OpQ.zX0 R (xJq hty R (yXb hs hq) (hρ x (by simp[Op.operands])) (hρ i (by simp[Op.operands])))
 case index t x i=>
  replace hq:=zXe hq;obtain⟨hq,rfl⟩:=hq;exact OpQ.zX0 R (vXl hty hq (hρ x (by simp[Op.operands])) (hρ i (by simp[Op.operands])))
 case lookup t m k ok=>
  replace hq:=zXe hq;obtain⟨hq,rfl⟩:=hq;exact OpQ.zX0 R (wYf hty R (yYl hs hq) (hρ m (by simp[Op.operands])) (hρ k (by simp[Op.operands])))
 case typeAssert x u t ok=>
  replace hq:=zXe hq;obtain⟨hq,rfl⟩:=hq;exact OpQ.zX0 R (xXm hty hq (hρ x (by simp[Op.operands])))
 case extract x i=>
  replace hq:=zXe hq;obtain⟨hq,rfl⟩:=hq;exact OpQ.zX0 R (wZc hq (hρ x (by simp[Op.operands])))
 case call cl=>
  replace hq:=zXe hq;obtain⟨hq,rfl⟩:=hq;exact vJ7 hty R hs hq (fun x hx=>hρ x hx) _
omit hs in
theorem vYp{lit:Nat}{ρ:Operand→CV}{ρv:Operand→Value}{o:Oper}{c:CV}{h':Heap}(hq:opL ty lit H ρ o.op=some (c,h'))
  (hρ:∀x∈o.op.operands,VR φ St w (ρ x) (ρv x)):
  ∃x w' φ' St',(execOp ρv o).run P w=.ok x w'∧(x=.skip∧c=zWt∨∃v,x=.value v∧VR φ' St' w' c v)∧Rel N φ' St' h' w'∧Frm H.length φ St w φ' St' w':=by
 unfold execOp;cases ho:o.op<;>rw[ho]at hq hρ<;>simp only[opL]at hq<;>(try (simp at hq;done))<;>dsimp only
 case store t a x=>
  cases hst:zY6 ty H t (ρ a) (ρ x)with
  |none=>simp[hst]at hq
  |some hh=>
   simp[hst]at hq;obtain⟨rfl,rfl⟩:=hq;obtain⟨w',φ1,St1,h1,h2,h3⟩:=vQm hty R hst (hρ a (by simp[Op.operands])) (hρ x (by simp[Op.operands]))
   exact⟨.skip,w',φ1,St1,by simp[h1], .inl ⟨rfl,rfl⟩,h2,h3⟩
 case mapUpdate t m k v=>
  cases hst:zKf ty H t (ρ m) (ρ k) (ρ v)with
  |none=>simp[hst]at hq
  |some hh=>
   simp[hst]at hq;obtain⟨rfl,rfl⟩:=hq;obtain⟨w',h1,h2,h3⟩:=xJd hty R hst (hρ m (by simp[Op.operands])) (hρ k (by simp[Op.operands])) (hρ v (by simp[Op.operands]))
   exact⟨.skip,w',φ,St,by simp[h1], .inl ⟨rfl,rfl⟩,h2,h3⟩
 case call cl=>
  have harg:∀x∈cl.args.toList,VR φ St w (ρ x) (ρv x):=fun x hx=>hρ x (by simp[Op.operands,Call.operands];exact .inr (by simpa using hx))
  split at hq<;>(try (simp at hq;done))
  ·rename_i s x t u hcal hx ht
   have ha:cl.args=#[s,x]:=by apply Ke;simpa using hx
   have hta:cl.argTypes=#[t,u]:=by apply Ke;simpa using ht
   have key:OpOk P N φ St H w (Builtin.append_ #[t,u] o.type #[ρv s,ρv x]) c h':=by
    split at hq
    ·exact yJ4 (t0:=o.type) hty R hq (harg s (by simp[hx])) (harg x (by simp[hx]))
    ·exact yJ4 (t0:=o.type) hty R hq (harg s (by simp[hx])) (harg x (by simp[hx]))
    ·exact yJ4 (t0:=o.type) hty R hq (harg s (by simp[hx])) (harg x (by simp[hx]))
    ·exact wYt (t0:=o.type) hty R hq (harg s (by simp[hx])) (harg x (by simp[hx]))
    ·exact wYu (t0:=o.type) hty R hq (harg s (by simp[hx])) (harg x (by simp[hx]))
   obtain⟨v,w',φ',St',h1,h2,h3,h4⟩:=key;exact⟨.value v,w',φ',St',by simp[resolve,hcal,ha,hta,invoke,builtin,h1], .inr ⟨v,rfl,h3⟩,h2,h4⟩
  ·rename_i s t hcal hx ht
   have ha:cl.args=#[s]:=by apply Ke;simpa using hx
   have hta:cl.argTypes=#[t]:=by apply Ke;simpa using ht
   obtain⟨v,w',φ',St',h1,h2,h3,h4⟩:=vZc (t0:=o.type) hty R hq (harg s (by simp[hx]))
   exact⟨.value v,w',φ',St',by simp[resolve,hcal,ha,hta,invoke,builtin,h1], .inr ⟨v,rfl,h3⟩,h2,h4⟩
  ·rename_i s x t u hcal hx ht
   have ha:cl.args=#[s,x]:=by apply Ke;simpa using hx
   have hta:cl.argTypes=#[t,u]:=by apply Ke;simpa using ht
   have key:OpOk P N φ St H w (Builtin.copy_ #[t,u] o.type #[ρv s,ρv x]) c h':=by
    split at hq
    ·exact vJx (u:=u) (t0:=o.type) hty R hq (harg s (by simp[hx])) (harg x (by simp[hx]))
    ·exact vJz (u:=u) (t0:=o.type) hty R hq (harg s (by simp[hx])) (harg x (by simp[hx]))
   obtain⟨v,w',φ',St',h1,h2,h3,h4⟩:=key;exact⟨.value v,w',φ',St',by simp[resolve,hcal,ha,hta,invoke,builtin,h1], .inr ⟨v,rfl,h3⟩,h2,h4⟩
end
end Go.Eng
/- The evaluator. -/
namespace Go.Eng
set_option linter.unusedVariables false
structure XFunc where
 ntmps:Nat
 results:List ResultVar
 body:X
inductive Out where
 |normal
 |exit (id:Nat)
 |goto (l:Nat)
 |ret
 |panic (v:CV)
abbrev Ans:=Option (Out×List CV×Heap)
structure Cfg where
 ty:Ty
 code:FuncId→Option XFunc
 glob:Nat→Option CV
 lit:FuncId→Bool
 sum:FuncId→Option (Heap→List CV→Option (CV×Heap))
 pure:FuncId→Option (List TypeId):=fun _=>none
 keep:FuncId→Bool:=fun _=>false
def ev(g:Nat→Option CV)(tmps:List CV):Operand→CV
 | .tmp t=>tmps.getD t zWt
 | .const v=>(ofV v).getD .junk
 | .global i=>(g i).getD .junk
 | .func f=>.func f [] []
def putC(tmps:List CV)(dst:Option Tmp)(v:CV):List CV:=
 match dst with
 |some d=>tmps.set d v
 |none=>tmps
def zWn(ops:Array Oper)(tmps:List CV)(o:Oper):Option Bool:=
 match o.guard with
 |none=>some true
 | some (j,want)=>
  match(ops[j]?).bind (·.dst)with
  |none=>some false
  |some d=>match tmps[d]? with
   |some (.bool b)=>some (b==want)
   |some (.tuple _)=>some false
   |none=>some false
   |_=>none
inductive Who where
 |fn (f:FuncId)
 |yl (l:Nat)
 deriving DecidableEq
inductive Called where
 |who (f:Who) (args:List CV)
 |panic (v:CV)
def zZj(ρ:Operand→CV)(o:Op):Option Called:=
 match o with
 | .call cl=>match cl.callee with
  | .value f=>match ρ f with
   | .func g first captured=>some (.who (.fn g) (first++cl.args.toList.map ρ++captured))
   | .yield l=>some (.who (.yl l) (cl.args.toList.map ρ))
   |_=>none
  | .builtin .panic=>match cl.args.toList with
   |[x]=>match ρ x with
    | .iface t v=>some (.panic (.iface t v))
    |_=>none
   |_=>none
  |_=>none
 | .panic x=>match ρ x with
  | .iface t v=>some (.panic (.iface t v))
  |_=>none
 |_=>none
inductive Stp where
 |quiet (v:CV) (new:Option HObj)
 |loud (v:CV) (h:Heap)
 |panic (v:CV) (h:Heap)
def zXt(c:Cfg)(lit:Nat)(call:Who→List CV→Heap→Ans)(h:Heap)(ρ:Operand→CV)(o:Op):Option Stp:=
 match opQ c.ty h h.length ρ o with
 |some (v,new)=>some (.quiet v new)
 | none=>match opL c.ty lit h ρ o with
  |some (v,h')=>some (.loud v h')
  | none=>match zZj ρ o with
   |some (.who f args)=>match call f args h with
    |some (.ret,[v],h')=>some (.loud v h')
    |some (.panic v,_,h')=>some (.panic v h')
    |_=>none
   |some (.panic v)=>some (.panic v h)
   |none=>none
def yJg(ty:Ty)(h:Heap)(tmps:List CV):ResultVar→Option CV
 | .tmp t=>some (tmps.getD t zWt)
 | .cell a t=>yJs ty h t (tmps.getD a zWt)
def zXj(ty:Ty)(h:Heap)(tmps:List CV):List ResultVar→Option (List CV)
 |[]=>some []
 | r::rs=>match yJg ty h tmps r with
  |none=>none
  |some c=>match zXj ty h tmps rs with
   |some cs=>some (c::cs)
   |none=>none
def oneOf:List CV→CV
 |[c]=>c
 |cs=>.tuple cs
inductive Job where
 |code (x:X)
 |round (b:X)
 |scope (b cur:X)
 |ops (ops:Array Oper) (draw:Bool) (l:List (Nat×List Nat))
 |call (f:Who) (args:List CV)
mutual
def CV.same:CV→CV→Bool
 | .bool a, .bool b=>a==b
 | .int j a, .int k b=>j==k&&a==b
 | .str a, .str b=>a==b
 | .nilptr, .nilptr=>true
 | .ptr a b, .ptr c d=>a==c&&b==d
 | .rop a, .rop b=>a.same b
 | .slice e xs t f, .slice e' ys t' f'=>e==e'&&t==t'&&f==f'&&CV.yZb xs ys
 | .sref a b c d e f, .sref a' b' c' d' e' f'=>a==a'&&b==b'&&c==c'&&d==d'&&e==e'&&f==f'
 | .map a, .map b=>a==b
 | .nilmap, .nilmap=>true
 | .func f xs ys, .func g us vs=>f==g&&CV.yZb xs us&&CV.yZb ys vs
 | .yield a, .yield b=>a==b
 | .nilfunc, .nilfunc=>true
 | .iface t a, .iface u b=>t==u&&a.same b
 | .niliface, .niliface=>true
 | .agg a, .agg b=>CV.yZb a b
 | .tuple a, .tuple b=>CV.yZb a b
 |_,_=>false
def CV.yZb:List CV→List CV→Bool
 |[],[]=>true
 |a::as,b::bs=>a.same b&&CV.yZb as bs
 |_,_=>false
end
def keepsC(c:Cfg)(ρ:Operand→CV)(o:Op):Bool:=
 match zZj ρ o with
 |some (.who (.fn f) _)=>c.keep f
 |_=>false
def again(c:Cfg)(h:Heap)(ops:Array Oper)(tmps:List CV):List Nat→Bool
 |[]=>true
 | r::rs=>
  (match ops[r]? with
  |none=>true
  | some o=>match zWn ops tmps o with
   |some false=>true
   | some true=>match opQ c.ty h 0 (ev c.glob tmps) o.op with
    |some (_,some _)=>true
    | some (v,none)=>match o.dst with
     |none=>true
     |some d=>match tmps[d]? with
      |some u=>v.same u
      |none=>false
    |none=>false
   |none=>false)&&again c h ops tmps rs
def farC(ρ:Operand→CV)(lo ro:Op):Bool:=
 match lo,ro with
 | .store _ a _, .load _ a'=>match ρ a,ρ a' with
  | .ptr b _, .ptr b' _=>b !=b'
  |_,_=>false
 |_,_=>false
def vY2(c:Cfg)(h:Heap)(ops:Array Oper)(tmps:List CV)(lo:Op):List Nat→Bool
 |[]=>true
 |r::rs=>((match ops[r]? with
  |some o=>farC (ev c.glob tmps) lo o.op
  |none=>false)||again c h ops tmps [r])&&vY2 c h ops tmps lo rs
def wKp(ops:Array Oper)(draw:Bool)(plan:List (Nat×List Nat)):List (Nat×List Nat):=
 if draw then plan else(List.range ops.size).map fun i=>(i,[])
mutual
def zWc:CV→Bool
 | .ptr _ _| .gref .. | .gptr ..=>false
 | .sref _ _ _ _ _ _| .map _| .yield _=>false
 | .rop v=>zWc v
 | .slice _ xs tok _=>tok.isNone&&zQ2 xs
 | .func _ xs ys=>zQ2 xs&&zQ2 ys
 | .iface _ v=>zWc v
 | .agg cs=>zQ2 cs
 | .tuple cs=>zQ2 cs
 |_=>true
def zQ2:List CV→Bool
 |[]=>true
 |c::cs=>zWc c&&zQ2 cs
end
def wrapV(v:CV)(cs:List CV):CV:=
 match v with
 | .agg _=>.agg cs
 |_=>cs.headD .junk
def mapO{α β:Type}(f:α→Option β):List α→Option (List β)
 |[]=>some []
 | x::xs=>match f x with
  |some y=>match mapO f xs with
   |some ys=>some (y::ys)
   |none=>none
  |none=>none
def exFs(ty:Ty)(f:TypeId→List CV→Option (List CV)):List Field→List CV→Option (List CV)
 |[],cs=>if cs.isEmpty then some []else none
 | fld::fs,cs=>match ty fld.type with
  |some j=>match f fld.type (cs.take j.size),exFs ty f fs (cs.drop j.size)with
   |some a,some b=>some (a++b)
   |_,_=>none
  |none=>none
def exEs(f:List CV→Option (List CV))(size:Nat):Nat→List CV→Option (List CV)
 |0,cs=>if cs.isEmpty then some []else none
 |n+1,cs=>match f (cs.take size),exEs f size n (cs.drop size)with
  |some a,some b=>some (a++b)
  |_,_=>none
def CV.isStr:CV→Bool
 | .str _=>true
 |_=>false
def fullE:CV→Bool
 | .sref _ _ _ len cap ex=>ex&&len==cap
 | .slice _ _ _ full=>full
 |_=>false
def exC(ty:Ty)(H:Heap):Nat→TypeId→List CV→Option (List CV)
 |0,_,_=>none
 | n+1,t,cs=>match ty t with
  |none=>none
  | some i=>match i.desc with
   | .struct fs=>exFs ty (exC ty H n) fs.toList cs
   | .array len e=>match ty e with
    |some j=>exEs (exC ty H n e) j.size len cs
    |none=>none
   | .slice e=>match ty e,cs with
    | some j,[c]=>if c.isStr then none else match srcE H j c with
     |some xs=>match mapO (fun x=>(exC ty H n e x.flat).map (wrapV x)) xs with
      |some ys=>some [.slice j.size ys none (fullE c)]
      |none=>none
     |none=>none
    |_,_=>none
   |_=>if zQ2 cs&&cs.all CV.one then some cs else none
def exV(ty:Ty)(H:Heap)(t:TypeId)(v:CV):Option CV:=
 match v with
 | .junk=>none
 |v=>(exC ty H 12 t v.flat).map (wrapV v)
def exVs(ty:Ty)(H:Heap):List TypeId→List CV→Option (List CV)
 |[],[]=>some []
 |t::ts,v::vs=>match exV ty H t v,exVs ty H ts vs with
  |some a,some b=>some (a::b)
  |_,_=>none
 |_,_=>none
def Out.jump:Out→Option (Option Jump)
 | .normal=>some none
 | .ret=>some (some .ret)
 | .exit id=>some (some (.exit id))
 | .goto l=>some (some (.goto l))
 | .panic _=>none
def Jump.out:Jump→Out
 | .ret=>.ret
 | .exit id=>.exit id
 | .goto l=>.goto l
def inLoop(rd:Option Nat)(h:Heap):Bool:=
 match rd with
 |none=>true
 |some b=>match h[b]? with
  |some (.loop _ _ _ _ _ _ _)=>true
  |_=>false
def yX7(l:Nat)(tmps:List CV)(h:Heap):Ans:=
 match h[l]? with
 |some (.loop f ts ps a b st pend)=>match st with
  | .busy=>none
  |_=>some ((match pend with|none=>.normal|some j=>j.out),tmps,h.set l (.loop f ts ps a b .exhausted pend))
 |_=>none
def wJp(l:Nat)(h:Heap):Option Heap:=
 match h[l]? with
 |some (.loop f ts ps a b .ready pend)=>some (h.set l (.loop f ts ps a b .busy pend))
 |_=>none
def endC(l:Nat)(o:Out)(h:Heap):Ans:=
 match h[l]?,o.jump with
 |some (.loop f ts ps a b _ _),some jmp=>some (.ret,[.bool jmp.isNone],h.set l (.loop f ts ps a b (if jmp.isNone then .ready else .done) jmp))
 |_,_=>none
def ex (c:Cfg):Nat→FuncId→Option Nat→Job→List CV→Heap→Ans
 |0,_,_,_,_,_=>none
 | n+1,fn,rd,j,tmps,h=>
  match j with
  | .code .skip=>some (.normal,tmps,h)
  | .code (.label _)=>some (.normal,tmps,h)
  | .code (.seq a b)=>match ex c n fn rd (.code a) tmps h with
   |some (.normal,t,h)=>ex c n fn rd (.code b) t h
   |r=>r
  | .code (.cond x a b)=>match ev c.glob tmps x with
   | .bool true=>ex c n fn rd (.code a) tmps h
   | .bool false=>ex c n fn rd (.code b) tmps h
   |_=>none
  | .code (.block id b)=>match ex c n fn rd (.code b) tmps h with
   |some (.exit id',t,h)=>if id'=id then some (.normal,t,h)else some (.exit id',t,h)
   |r=>r
  | .code (.loop b)=>ex c n fn rd (.round b) tmps h
  | .round b=>match ex c n fn rd (.code b) tmps h with
   |some (.normal,t,h)=>ex c n fn rd (.round b) t h
   |r=>r
  | .code (.rangeFunc g ps a b)=>
   if inLoop rd h then match ev c.glob tmps g with
    | .func gf first captured=>match ex c n gf none (.call (.fn gf) (first++[.yield h.length]++captured)) [] (h++[.loop fn tmps ps a b .ready none])with
     |some (.ret,[_],h1)=>yX7 h.length tmps h1
     |some (.panic v,_,h1)=>some (.panic v,tmps,h1)
     |_=>none
    |_=>none
   else none
  | .code (.scope b)=>ex c n fn rd (.scope b b) tmps h
  | .scope b cur=>match ex c n fn rd (.code cur) tmps h with
   |some (.goto l,t,h)=>match yWi b l with
    |some rest=>ex c n fn rd (.scope b rest) t h
    |none=>some (.goto l,t,h)
   |r=>r
  | .code (.exit id)=>some (.exit id,tmps,h)
  | .code (.goto l)=>some (.goto l,tmps,h)
  | .code .ret=>some (.ret,tmps,h)
  | .code (.region _ ops draw plan)=>ex c n fn rd (.ops ops draw (wKp ops draw plan)) tmps h
  | .ops _ _ []=>some (.normal,tmps,h)
  | .ops ops draw ((i,rs)::l)=>match ops[i]? with
   |none=>if draw then none else ex c n fn rd (.ops ops draw l) tmps h
   | some o=>match zWn ops tmps o with
    |none=>none
    |some false=>ex c n fn rd (.ops ops draw l) (putC tmps o.dst zWt) h
    |some true=>match zXt c (if c.lit fn then 1 else 0) (fun f args h=>ex c n fn none (.call f args) [] h) h (ev c.glob tmps) o.op with
     |some (.quiet v new)=>ex c n fn rd (.ops ops draw l) (putC tmps o.dst v) (h++new.toList)
     |some (.loud v h')=>if(!draw||zKp o.op)&&(keepsC c (ev c.glob tmps) o.op||vY2 c h' ops tmps o.op rs)then ex c n fn rd (.ops ops draw l) (putC tmps o.dst v) h' else none
     |some (.panic v h')=>some (.panic v,if draw then tmps.map fun _=>CV.junk else tmps,h')
     |none=>none
  | .call (.fn f) args=>match c.sum f with
   |some F=>(F h args).map fun p=>(.ret,[p.1],p.2)
   | none=>match c.code f with
    |none=>none
    |some fd=>match(if zQ2 args then c.pure f else none)with
    | some ts=>match ex c n f none (.code fd.body) (args++List.replicate (fd.ntmps-args.length) zWt) []with
      |some (.normal,t,h')=>((zXj c.ty h' t fd.results).bind (exVs c.ty h' ts)).map fun cs=>(.ret,[oneOf cs],h)
      |some (.ret,t,h')=>((zXj c.ty h' t fd.results).bind (exVs c.ty h' ts)).map fun cs=>(.ret,[oneOf cs],h)
      |_=>none
    |none=>match ex c n f none (.code fd.body) (args++List.replicate (fd.ntmps-args.length) zWt) h with
     |some (.normal,t,h')=>(zXj c.ty h' t fd.results).map fun cs=>(.ret,[oneOf cs],h')
     |some (.ret,t,h')=>(zXj c.ty h' t fd.results).map fun cs=>(.ret,[oneOf cs],h')
     |some (.panic v,t,h')=>some (.panic v,[],h')
     |_=>none
  | .call (.yl l) args=>match h[l]? with
   | some (.loop f ts ps a b .ready _)=>
    if args.length=ps.size then
     match ex c n f (some l) (.code a) ((ps.toList.zip args).foldl (fun T p=>T.set p.1 p.2) ts) h with
     | some (.normal,t1,h1)=>match wJp l h1 with
      |some h2=>match ex c n f (some l) (.code b) t1 h2 with
       |some (o,_,h3)=>endC l o h3
       |none=>none
      |none=>none
     |_=>none
    else none
   |_=>none
end Go.Eng
