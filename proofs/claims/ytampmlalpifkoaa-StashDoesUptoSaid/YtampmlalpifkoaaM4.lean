/- The engine, part 4. -/
import Derived.Test.YtampmlalpifkoaaM3
set_option linter.unusedSimpArgs false
/- Operations on plain data, by name. -/
namespace Go.Eng.Z
@[reducible] def add(a b:Int):Int:=a+b
@[reducible] def sub(a b:Int):Int:=a-b
@[reducible] def mul(a b:Int):Int:=a*b
@[reducible] def tdiv(a b:Int):Int:=a.tdiv b
@[reducible] def tmod(a b:Int):Int:=a.tmod b
@[reducible] def wrap(k:IntKind)(a:Int):Int:=k.wrap a
@[reducible] def band(k:IntKind)(a b:Int):Int:=k.wrap (BitVec.ofInt k.bits a&&&BitVec.ofInt k.bits b).toNat
@[reducible] def bor(k:IntKind)(a b:Int):Int:=k.wrap (BitVec.ofInt k.bits a|||BitVec.ofInt k.bits b).toNat
@[reducible] def bxor(k:IntKind)(a b:Int):Int:=k.wrap (BitVec.ofInt k.bits a^^^BitVec.ofInt k.bits b).toNat
@[reducible] def bandn(k:IntKind)(a b:Int):Int:=k.wrap (BitVec.ofInt k.bits a&&& ~~~(BitVec.ofInt k.bits b)).toNat
@[reducible] def shl(k:IntKind)(a b:Int):Int:=k.wrap (a*2^(min b.toNat k.bits))
@[reducible] def shr(k:IntKind)(a b:Int):Int:=a.fdiv (2^(min b.toNat k.bits))
@[reducible] def ieq(a b:Int):Bool:=a==b
@[reducible] def ine(a b:Int):Bool:=a !=b
@[reducible] def ilt(a b:Int):Bool:=decide (a<b)
@[reducible] def ile(a b:Int):Bool:=decide (a≤b)
@[reducible] def igt(a b:Int):Bool:=decide (a>b)
@[reducible] def ige(a b:Int):Bool:=decide (a≥b)
@[reducible] def bnot(a:Bool):Bool:=!a
@[reducible] def beq(a b:Bool):Bool:=a==b
@[reducible] def andB(a b:Bool):Bool:=a&&b
@[reducible] def lq(n:Nat)(l k:List Int):Bool:=(List.range n).all fun i=>l.getD i 0==k.getD i 0
@[reducible] def zQu(t x y:Bool):Bool:=if t=true then x else y
@[reducible] def IsZ(b:Int):Prop:=b=0
@[reducible] def Neg(b:Int):Prop:=b<0
@[reducible] def In(n:Int)(len:Nat):Prop:=0≤n∧n<len
@[reducible] def Ix(n:Int)(len:Nat):Prop:=0≤n∧n.toNat<len
@[reducible] def Bd(n:Int)(len:Nat):Prop:=0≤n∧n≤len
@[reducible] def Lt(a b:Nat):Prop:=a<b
@[reducible] def Le(a b:Nat):Prop:=a≤b
@[reducible] def EqN(a b:Nat):Prop:=a=b
noncomputable def mkOkP:{f:Int→Int→Nat→Bool// ∀l c b,f l c b=true↔(0≤l∧l≤c∧c<2^40∧b*c≤2^48)}:=Classical.choice ⟨⟨fun l c b=>decide (0≤l∧l≤c∧c<2^40∧b*c≤2^48),fun _ _ _=>decide_eq_true_iff⟩⟩
@[reducible] def MkOk(l c:Int)(bytes:Nat):Prop:=mkOkP.1 l c bytes=true
theorem zYx{l c:Int}{b:Nat}:MkOk l c b↔(0≤l∧l≤c∧c<2^40∧b*c≤2^48):=mkOkP.2 l c b
noncomputable def zOkP:{f:Int→Nat→Bool// ∀n b,f n b=true↔(0≤n∧n≤2^40∧n*(b+1)≤2^44)}:=Classical.choice ⟨⟨fun n b=>decide (0≤n∧n≤2^40∧n*(b+1)≤2^44),fun _ _=>decide_eq_true_iff⟩⟩
@[reducible] def ZOk(n:Int)(bytes:Nat):Prop:=zOkP.1 n bytes=true
theorem xYi{n:Int}{b:Nat}:ZOk n b↔(0≤n∧n≤2^40∧n*(b+1)≤2^44):=zOkP.2 n b
@[reducible] def Big(a b bytes:Nat):Prop:=2^44<(a+b)*(bytes+1)
@[reducible] def SBig(a b:Nat):Prop:=a+b<2^40
@[reducible] def eqN(a b:Nat):Bool:=a==b
@[reducible] def addN(a b:Nat):Nat:=a+b
@[reducible] def subN(a b:Nat):Nat:=a-b
@[reducible] def toN(n:Int):Nat:=n.toNat
@[reducible] def ofN(n:Nat):Int:=n
@[reducible] def len{α:Type}(l:List α):Nat:=l.length
@[reducible] def get{α:Type}(l:List α)(i:Nat)(d:α):α:=l.getD i d
@[reducible] def set{α:Type}(l:List α)(i:Nat)(d:α):List α:=l.set i d
@[reducible] def app{α:Type}(l k:List α):List α:=l++k
@[reducible] def seg{α:Type}(l:List α)(off len:Nat):List α:=(l.drop off).take len
@[reducible] def slice{α:Type}(l:List α)(lo hi:Nat):List α:=(l.take hi).drop lo
@[reducible] def rep{α:Type}(n:Nat)(d:α):List α:=List.replicate n d
@[reducible] def norm{α:Type}(n:Nat)(l:List α)(d:α):List α:=(List.range n).map fun i=>l.getD i d
@[reducible] def bytes(s:List UInt8):List Int:=s.map fun b=>(b.toNat:Int)
@[reducible] def str(l:List Int):List UInt8:=l.map fun n=>UInt8.ofNat n.toNat
@[reducible] def sget(s:List UInt8)(i:Nat):Int:=(s.getD i 0).toNat
@[reducible] def seq(a b:List UInt8):Bool:=a==b
@[reducible] def sne(a b:List UInt8):Bool:=!(a==b)
@[reducible] def slt(a b:List UInt8):Bool:=Op.bytesLess a b
@[reducible] def imax(gt:Bool)(a b:Int):Int:=if gt then(if b>a then b else a)else(if b<a then b else a)
@[reducible] def bnd{α β:Type}(x:α)(k:α→Option β):Option β:=k x
@[reducible] def minN(a b:Nat):Nat:=min a b
@[reducible] def take{α:Type}(n:Nat)(l:List α):List α:=l.take n
@[reducible] def put{α:Type}(l:List α)(off:Nat)(k:List α):List α:=zQd l off k
@[reducible] def bind{α β:Type}(x:Option α)(k:α→Option β):Option β:=x.bind k
@[reducible] def xlen{α:Type}(d:MixE α):Nat:=match d with| .data l=>l.length| .nil=>0| .ref _ _ n _=>n
@[reducible] def xget{α:Type}(m:List (List α))(d:MixE α):List α:=match d with| .data l=>l| .nil=>[]| .ref k off n _=>((m.getD k []).drop off).take n
@[reducible] def XOk{α:Type}(m:List (List α))(d:MixE α):Prop:=d.xok m=true
@[reducible] def XPt{α:Type}(m:List (List α))(d:MixE α)(i:Nat):Prop:=d.xpt m i=true
@[reducible] def XW{α:Type}(m:List (List α))(d:MixE α):Prop:=d.xw m=true
@[reducible] def XGr{α:Type}(m:List (List α))(d:MixE α):Prop:=d.xgr m=true
@[reducible] def XCut{α:Type}(m:List (List α))(d:MixE α):Prop:=d.xcut m=true
@[reducible] def xk{α:Type}(d:MixE α):Nat:=match d with| .ref k _ _ _=>k|_=>0
@[reducible] def xoff{α:Type}(d:MixE α):Nat:=match d with| .ref _ off _ _=>off|_=>0
@[reducible] def xgen{α:Type}(d:MixE α):Nat:=match d with| .ref _ _ _ gen=>gen|_=>0
@[reducible] def xat{α:Type}(m:List (List α))(d:MixE α)(i:Nat)(z:α):α:=(m.getD (xk d) []).getD (xoff d+i) z
@[reducible] def xset{α:Type}(m:List (List α))(d:MixE α)(i:Nat)(x:α):List (List α):=m.set (xk d) ((m.getD (xk d) []).set (xoff d+i) x)
@[reducible] def xapp{α:Type}(m:List (List α))(d:MixE α)(l:List α):List (List α):=m.set (xk d) (m.getD (xk d) []++l)
@[reducible] def wY1{α:Type}(d:MixE α)(n:Nat):MixE α:=match d with| .ref k off len gen=>.ref k off (len+n) (gen+n)|d=>d
@[reducible] def xcut{α:Type}(d:MixE α)(lo hi:Nat):MixE α:=match d with| .data l=>.data ((l.take hi).drop lo)| .nil=>.nil| .ref k off _ gen=>.ref k (off+lo) (hi-lo) gen
@[reducible] def xput{α:Type}(m:List (List α))(d:MixE α)(l:List α):List (List α):=m.set (xk d) (zQd (m.getD (xk d) []) (xoff d) l)
@[reducible] def xnew{α:Type}(k n:Nat):MixE α:=.ref k 0 n n
@[reducible] def wZy{α:Type}(n:Nat)(d:MixE α):MixE α:=match d with| .ref k off len gen=>.ref (n+k) off len gen|d=>d
@[reducible] def zJt{α:Type}(l:List α):MixE α:=.data l
@[reducible] def xrow{α:Type}(k:Nat)(d:List α):MixE α:=if d.length=0 then .data d else .ref k 0 d.length d.length
@[reducible] def mapO{α β:Type}(f:α→Option β)(l:List α):Option (List β):=l.mapM f
@[reducible] def xnil{α:Type}:MixE α:=.nil
@[reducible] def vKa{α:Type}(n:Nat):List (MixE α):=(List.range n).map fun k=>.ref k 0 0 0
def wQr(n:Int):List (Int×Int)→Nat→Option (Nat×Int)
 |[],_=>none
 |p::es,i=>if n==p.1 then some (i,p.2)else wQr n es (i+1)
@[reducible] def mget(es:List (Int×Int))(n:Int):Int:=((wQr n es 0).map (·.2)).getD 0
@[reducible] def mhas(es:List (Int×Int))(n:Int):Bool:=(wQr n es 0).isSome
@[reducible] def mput(es:List (Int×Int))(n v:Int):List (Int×Int):=match wQr n es 0 with|some q=>es.set q.1 (n,v)|none=>es++[(n,v)]
def join{σ β:Type}(f:(σ→Option β)→Option β)(g:σ→Option β):Option β:=f g
theorem join_eq{σ β:Type}(f:(σ→Option β)→Option β)(g:σ→Option β):join f g=f g:=rfl
end Go.Eng.Z
namespace Go.Eng
def wQw{σ β:Type}(f:σ→(σ→Option β)→Option β):Nat→σ→Option β
 |0,_=>none
 |n+1,d=>f d (wQw f n)
def bigN:Nat:=18446744073709551616
noncomputable def Z.loopP{σ β:Type}:{g:(σ→(σ→Option β)→Option β)→σ→Option β//g=fun f d=>wQw f bigN d}:=Classical.choice ⟨⟨_,rfl⟩⟩
noncomputable def Z.loop{σ β:Type}(f:σ→(σ→Option β)→Option β)(d:σ):Option β:=Z.loopP.1 f d
theorem Z.vW8{σ β:Type}(f:σ→(σ→Option β)→Option β)(d:σ):Z.loop f d=wQw f bigN d:=congrFun (congrFun Z.loopP.2 f) d
noncomputable def Z.anyP{α:Type}:{f:Nat→(Nat→Option α)→Option α→Option α// ∀n g z l,f n g z=some l↔((∀k,n≤k→g k=some l)∧(n=0→z=some l))}:=
 Classical.choice (by
  classical
  refine⟨⟨fun n g z=>if h:∃l,(∀k,n≤k→g k=some l)∧(n=0→z=some l)then some (Classical.choose h)else none,fun n g z l=>?_⟩⟩
  dsimp only;by_cases h:∃l,(∀k,n≤k→g k=some l)∧(n=0→z=some l)
  ·rw[dif_pos h]
   have hc:=Classical.choose_spec h;constructor
   ·intro e
    simp only[Qa]at e;rw[←e];exact hc
   ·intro hl
    have a:=hc.1 n (Qe _);rw[hl.1 n (Qe _)]at a;exact a.symm
  ·rw[dif_neg h]
   constructor
   ·intro e;cases e
   ·intro hl;exact absurd ⟨l,hl⟩ h)
noncomputable def Z.yXm{α:Type}(n:Nat)(g:Nat→Option α)(z:Option α):Option α:=Z.anyP.1 n g z
theorem Z.yJ6{α:Type}{n:Nat}{g:Nat→Option α}{z:Option α}{l:α}:Z.yXm n g z=some l↔((∀k,n≤k→g k=some l)∧(n=0→z=some l)):=Z.anyP.2 n g z l
end Go.Eng
/- Typed values, for symbolic evaluation: what they are in the clean world. -/
namespace Go.Eng
set_option linter.unusedVariables false
inductive C where
 |bool
 |int (k:IntKind)
 |str
 |list (c:C)
 |unit
 |pair (a b:C)
 |arr (n:Nat) (c:C)
 |mix (b:Nat) (c:C)
 deriving DecidableEq
@[reducible] def El:C→Type
  | .bool=>Bool
  | .int _=>Int
  | .str=>List UInt8
  | .list c=>List (El c)
  | .unit=>Unit
  | .pair a b=>El a×El b
  | .arr _ c=>List (El c)
  | .mix _ c=>MixE (El c)
def dfl:(c:C)→El c
 | .bool=>false
 | .int _=>(0:Int)
 | .str=>[]
 | .list _=>[]
 | .unit=>()
 | .pair a b=>(dfl a,dfl b)
 | .arr n c=>List.replicate n (dfl c)
 | .mix _ _=>.nil
def C.cells:C→Nat
 | .unit=>0
 | .pair a b=>a.cells+b.cells
 | .arr n c=>n*c.cells
 |_=>1
def C.agg:C→Bool
 | .unit| .pair _ _| .arr _ _=>true
 |_=>false
def mixC{α:Type}(b sz:Nat)(f:α→CV):MixE α→CV
 | .data ds=>.slice sz (ds.map f) none false
 | .nil=>.slice 0 [] none true
 | .ref k off n gen=>.gref sz b k (off*sz) n (gen*sz)
theorem zWd{α:Type}(b sz:Nat)(f:α→CV)(d:MixE α):(mixC b sz f d).flat=[mixC b sz f d]:=by cases d<;>rfl
theorem wK3{α:Type}(b sz:Nat)(f:α→CV)(d:MixE α):(mixC b sz f d).one=true:=by cases d<;>rfl
def valC:(c:C)→El c→CV
 | .bool,b=>.bool b
 | .int k,n=>.int k n
 | .str,s=>.str s
 | .list c,ds=>.slice c.cells (ds.map (valC c)) none false
 | .unit,_=>.agg []
 | .pair a b,d=>.agg ((valC a d.1).flat++(valC b d.2).flat)
 | .arr n c,ds=>.agg ((List.range n).flatMap fun i=>(valC c (ds.getD i (dfl c))).flat)
 | .mix b c,d=>mixC b c.cells (valC c) d
def C.pl:C→Bool
 | .list c=>c.pl
 | .pair a b=>a.pl&&b.pl
 | .arr _ c=>c.pl
 | .mix _ _=>false
 |_=>true
theorem flat_agg(cs:List CV):(CV.agg cs).flat=cs:=rfl
theorem zQt:∀(c:C) (d:El c),(valC c d).flat.length=c.cells
 | .mix b c,d=>by simp only[valC,zWd];rfl
 | .bool,b=>rfl
 | .int k,n=>rfl
 | .str,s=>rfl
 | .list c,ds=>rfl
 | .unit,_=>rfl
 | .pair a b,d=>by simp only[valC,flat_agg,C.cells,Q5,zQt a d.1,zQt b d.2]
 | .arr n c,ds=>by
  simp only[valC,flat_agg,C.cells];have:∀l:List Nat,(l.flatMap fun i=>(valC c (ds.getD i (dfl c))).flat).length=l.length*c.cells:=by
   intro l;induction l with
   |nil=>simp
   |cons i l ih=>rw[Qo,Q5,ih,zQt c,Jc,Kg,Nat.add_comm]
  rw[this,List.length_range]
theorem zKi:∀(c:C) (d:El c),(valC c d).flat.all CV.one=true
 | .mix b c,d=>by simp only[valC,zWd,J7,wK3,List.all_nil,Wg]
 | .bool,b=>rfl
 | .int k,n=>rfl
 | .str,s=>rfl
 | .list c,ds=>rfl
 | .unit,_=>rfl
 | .pair a b,d=>by simp only[valC,flat_agg,List.all_append,zKi a d.1,zKi b d.2,Wg]
 | .arr n c,ds=>by
  simp only[valC,flat_agg,Qq];intro x hx;obtain⟨i,_,hi⟩:=J0.1 hx;exact Qq.1 (zKi c _) x hi
theorem zQ8:∀(c:C) (d:El c),c.pl=true→zWc (valC c d)=true
 | .bool,b,_=>rfl
 | .int k,n,_=>rfl
 | .str,s,_=>rfl
 | .list c,ds,h=>by
  simp only[valC,zWc,Option.isNone_none,K5];have h':c.pl=true:=h;induction ds with
  |nil=>rfl
  |cons d ds ih=>simp[zQ2,zQ8 c d h',ih]
 | .unit,_,_=>rfl
 | .pair a b,d,h=>by
  simp only[C.pl,Qc]at h;simp[valC,zWc,zKm,zXf (zQ8 a d.1 h.1),zXf (zQ8 b d.2 h.2)]
 | .arr n c,ds,h=>by
  simp only[valC,zWc];have h':c.pl=true:=h;generalize List.range n=l;induction l with
  |nil=>rfl
  |cons i l ih=>simp only[Qo,zKm,zXf (zQ8 c _ h'),ih,Wg]
 | .mix b c,d,h=>by simp[C.pl]at h
inductive VV where
 |junk
 |undef
 |bool (b:Bool)
 |int (k:IntKind) (n:Int)
 |str (s:List UInt8)
 |nilptr
 |nilmap
 |nsl
 |ptr (b off:Nat)
 |ptrE (b i:Nat) (c:C)
 |ptrF (b i:Nat) (c:C) (o:Nat)
 |rop (v:VV)
 |av (n:Nat) (c:C) (ds:List (El c))
 |sl (c:C) (ds:List (El c)) (tok:Option Nat) (full:Bool)
 |sref (b off len cap:Nat) (ex:Bool) (c:C)
 |mix (b:Nat) (c:C) (d:MixE (El c))
 |xptr (b:Nat) (c:C) (d:MixE (El c)) (i o:Nat)
 |func (f:FuncId) (first captured:List VV)
 |yield (l:Nat)
 |nilfunc
 |niliface
 |agg (vs:List VV)
 |tuple (vs:List VV)
 |map (b:Nat)
 |ifc (t:TypeId) (c:CV)
mutual
def VV.cv:VV→CV
 | .junk=>.junk
 | .undef=>zWt
 | .bool b=>.bool b
 | .int k n=>.int k n
 | .str s=>.str s
 | .nilptr=>.nilptr
 | .nilmap=>.nilmap
 | .nsl=>.slice 0 [] none true
 | .ptr b off=>.ptr b off
 | .ptrE b i c=>.ptr b (i*c.cells)
 | .ptrF b i c o=>.ptr b (i*c.cells+o)
 | .rop v=>.rop v.cv
 | .av n c ds=>valC (.arr n c) ds
 | .sl c ds tok full=>.slice c.cells (ds.map (valC c)) tok full
 | .sref b off len cap ex c=>.sref c.cells b (off*c.cells) len cap ex
 | .mix b c d=>valC (.mix b c) d
 | .xptr b c d i o=>.gptr b (Z.xk d) ((Z.xoff d+i)*c.cells+o) (Z.xgen d*c.cells)
 | .func f xs ys=>.func f (VV.cvs xs) (VV.cvs ys)
 | .yield l=>.yield l
 | .nilfunc=>.nilfunc
 | .niliface=>.niliface
 | .agg vs=>.agg (VV.cvs vs)
 | .tuple vs=>.tuple (VV.cvs vs)
 | .map b=>.map b
 | .ifc t c=>.iface t c
def VV.cvs:List VV→List CV
 |[]=>[]
 |v::vs=>v.cv::VV.cvs vs
end
theorem VV.zQx:∀vs:List VV,VV.cvs vs=vs.map VV.cv
 |[]=>rfl
 |v::vs=>by simp[VV.cvs,VV.zQx vs]
def VV.one:VV→Bool
 | .agg _| .av _ _ _| .tuple _| .junk| .undef=>false
 |_=>true
theorem VV.vWx(v:VV):v.cv.one=v.one:=by
 cases v<;>first|rfl|exact wK3 _ _ _ _
def zJs:(c:C)→El c→List VV
 | .bool,b=>[.bool b]
 | .int k,n=>[.int k n]
 | .str,s=>[.str s]
 | .list c,ds=>[.sl c ds none false]
 | .unit,_=>[]
 | .pair a b,d=>zJs a d.1++zJs b d.2
 | .arr n c,ds=>(List.range n).flatMap fun i=>zJs c (Z.get ds i (dfl c))
 | .mix b c,d=>[.mix b c d]
theorem zKu:∀(c:C) (d:El c),(zJs c d).map VV.cv=(valC c d).flat
 | .mix b c,d=>by simp only[zJs,Qg,Q8,VV.cv,valC,zWd]
 | .bool,b=>rfl
 | .int k,n=>rfl
 | .str,s=>rfl
 | .list c,ds=>rfl
 | .unit,_=>rfl
 | .pair a b,d=>by simp only[zJs,Qw,zKu a d.1,zKu b d.2,valC,flat_agg]
 | .arr n c,ds=>by
  simp only[zJs,valC,flat_agg,List.map_flatMap];congr 1
  funext i
  exact zKu c _
def valV:(c:C)→El c→VV
 | .bool,b=>.bool b
 | .int k,n=>.int k n
 | .str,s=>.str s
 | .list c,ds=>.sl c ds none false
 | .unit,_=>.agg []
 | .pair a b,d=>.agg (zJs a d.1++zJs b d.2)
 | .arr n c,ds=>.av n c ds
 | .mix b c,d=>.mix b c d
theorem zQv:∀(c:C) (d:El c),(valV c d).cv=valC c d
 | .mix b c,d=>rfl
 | .bool,b=>rfl
 | .int k,n=>rfl
 | .str,s=>rfl
 | .list c,ds=>rfl
 | .unit,_=>rfl
 | .pair a b,d=>by simp only[valV,VV.cv,VV.zQx,Qw,zKu,valC]
 | .arr n c,ds=>rfl
def VV.flat:VV→List VV
 | .agg vs=>vs
 | .av n c ds=>zJs (.arr n c) ds
 |v=>[v]
theorem VV.zYe(v:VV):v.cv.flat=v.flat.map VV.cv:=by
 cases v<;>simp[VV.cv,VV.flat,CV.flat,VV.zQx,zWt]
 ·rename_i n c ds
  exact(zKu (.arr n c) ds).symm
 ·exact zWd _ _ _ _
inductive SK where
 |val (c:C)
 |slt (c:C) (tok:Option Nat) (full:Bool)
 |sref (b:Nat) (ex:Bool) (c:C)
inductive Item where
 |slot (i:Nat) (s:SK)
 |cells (b:Nat) (l:List SK)
 |vec (b:Nat) (c:C)
 |rows (b:Nat) (c:C)
 |map (b:Nat) (k1 k2:IntKind)
structure LSpec where
 id:Nat
 known:Bool
 toks:List (Nat×C)
 items:List Item
 junk:List Nat
 tails:List (Nat×Nat)
 frz:List (Nat×Nat):=[]
instance:Inhabited LSpec:=⟨{id:=0,known:=false,toks:=[],items:=[],junk:=[],tails:=[]}⟩
inductive Y where
 |skip
 |region (id:Nat) (ops:Array Oper) (draw:Bool) (plan:List (Nat×List Nat)) (nl:Nat)
 |seq (a b:Y)
 |cond (c:Operand) (thn els:Y)
 |block (id:Nat) (body:Y)
 |loop (sp:LSpec) (body:Y)
 |exit (id:Nat)
 |scope (body:Y)
 |label (l:Nat)
 |goto (l:Nat)
 |ret
 |rangeFunc (g:Operand) (ps:Array Tmp) (assign body:Y)
 |join (sp:LSpec) (body:Y)
 deriving Inhabited
def Y.x:Y→X
 | .join _ b=>b.x
 | .skip=>.skip
 | .region id ops draw plan _=>.region id ops draw plan
 | .seq a b=>.seq a.x b.x
 | .cond c a b=>.cond c a.x b.x
 | .block id b=>.block id b.x
 | .loop _ b=>.loop b.x
 | .exit id=>.exit id
 | .scope b=>.scope b.x
 | .label l=>.label l
 | .goto l=>.goto l
 | .ret=>.ret
 | .rangeFunc g ps a b=>.rangeFunc g ps a.x b.x
inductive VObj where
 |dead
 |cells (vs:List VV)
 |vec (c:C) (ds:List (El c))
 |rows (c:C) (dss:List (List (El c)))
 |tail (u:Nat)
 |loop (fn:FuncId) (tmps:List VV) (params:Array Tmp) (assign body:Y) (state:LoopState) (pending:Option Jump)
 |map (k1 k2:IntKind) (es:List (Int×Int))
abbrev zQa:=List VObj
def vecC(c:C)(ds:List (El c)):List CV:=ds.flatMap fun d=>(valC c d).flat
def entC(k1 k2:IntKind)(es:List (Int×Int)):List (CV×CV):=es.map fun p=>(.int k1 p.1, .int k2 p.2)
def VObj.ho:VObj→HObj
 | .dead=>.dead
 | .cells vs=>.cells (vs.map VV.cv)
 | .vec c ds=>.cells (vecC c ds)
 | .rows c dss=>.rows (dss.map (vecC c))
 | .tail u=>.tail u
 | .loop fn tmps ps a b st pend=>.loop fn (tmps.map VV.cv) ps a.x b.x st pend
 | .map k1 k2 es=>.map (entC k1 k2 es)
def hc(h:zQa):Heap:=h.map VObj.ho
theorem zQ6(h:zQa)(b:Nat):(hc h)[b]?=(h[b]?).map VObj.ho:=by simp[hc]
theorem zW8(h:zQa):(hc h).length=h.length:=by simp[hc]
theorem zWb(h k:zQa):hc (h++k)=hc h++hc k:=by simp[hc]
theorem zQy(h:zQa)(b:Nat)(o:VObj):hc (h.set b o)=(hc h).set b o.ho:=by simp[hc,Jb]
def Z.zZ7{β:Type}(i:Nat)(t:List VV)(h:zQa)(m:List Nat):Option β:=none
@[simp] theorem Z.probe_none{β:Type}(i:Nat)(t:List VV)(h:zQa)(m:List Nat):Z.zZ7 (β:=β) i t h m=none:=rfl
theorem zQp(c:C)(ds:List (El c)):(vecC c ds).length=ds.length*c.cells:=by
 induction ds with
 |nil=>simp[vecC]
 |cons d ds ih=>simp only[vecC,Qo,Q5,zQt,Jc]at *;rw[ih,Kg];omega
theorem yQu(c:C)(xs ys:List (El c)):vecC c (xs++ys)=vecC c xs++vecC c ys:=by simp[vecC]
theorem zWh(c:C)(ds:List (El c))(i:Nat):(vecC c ds).drop (i*c.cells)=vecC c (ds.drop i):=by
 induction i generalizing ds with
 |zero=>simp
 | succ i ih=>
  cases ds with
  |nil=>simp[vecC]
  | cons d ds=>
   rw[Kg,Nat.add_comm,←List.drop_drop];have:(vecC c (d::ds)).drop c.cells=vecC c ds:=by
    simp only[vecC,Qo];rw[List.drop_append_of_le_length (by rw[zQt];exact Qe _),Ws (by rw[zQt];exact Qe _)];simp
   rw[this,ih];rfl
theorem zWp(c:C)(ds:List (El c))(i:Nat):(vecC c ds).take (i*c.cells)=vecC c (ds.take i):=by
 induction i generalizing ds with
 |zero=>simp[vecC]
 | succ i ih=>
  cases ds with
  |nil=>simp[vecC]
  |cons d ds=>
   simp only[vecC,Qo,List.take_succ_cons];rw[List.take_append,zQt,show(i+1)*c.cells-c.cells=i*c.cells by rw[Kg];omega]
   rw[Q9 (by rw[zQt,Kg];omega)]
   congr 1;exact ih ds
theorem zXc(c:C)(ds:List (El c)):(vecC c ds).all CV.one=true:=by
 induction ds with
 |nil=>rfl
 |cons d ds ih=>simp only[vecC,Qo,List.all_append,zKi,K5];exact ih
end Go.Eng
/- Typed operations that turn nothing: each goes on with its answer where what it asks for holds. -/
namespace Go.Eng
set_option linter.unusedVariables false
def vOf1:Value→VV
 | .bool b=>.bool b
 | .int k n=>.int k n
 | .string s=>.str s.data.toList
 | .pointer none=>.nilptr
 | .slice none 0 0=>.nsl
 | .map none=>.nilmap
 | .nilFunc=>.nilfunc
 | .nilIface=>.niliface
 | .func (.func f) ⟨[]⟩ ⟨[]⟩=>.func f [] []
 |_=>.junk
def vOf:Value→VV
 | .agg cs=>if(cs.toList.map vOf1).all VV.one then .agg (cs.toList.map vOf1)else .junk
 | .tuple ⟨[]⟩=>.undef
 |v=>vOf1 v
theorem vQe(v:Value):(vOf1 v).one=true→ofV1 v=some (vOf1 v).cv:=by
 unfold vOf1 ofV1;split<;>simp[VV.one,VV.cv,VV.cvs]
theorem xYs{v:Value}(h:(vOf1 v).one=false):ofV1 v=none:=by
 unfold vOf1 at h;split at h<;>simp only[VV.one,Bool.true_eq_false]at h;unfold ofV1;split<;>simp_all
theorem wJv(v:Value):(vOf1 v).cv=(ofV1 v).getD .junk:=by
 cases h:(vOf1 v).one with
 |true=>rw[vQe v h];rfl
 |false=>
  rw[xYs h];unfold vOf1 at h⊢;split at h<;>simp only[VV.one,Bool.true_eq_false]at h;rfl
theorem vQd(v:Value):(vOf v).cv=(ofV v).getD .junk:=by
 unfold vOf;split
 ·rename_i cs
  have key:∀l:List Value,(l.map vOf1).all VV.one=false→ofVs l=none:=by
   intro l;induction l with
   |nil=>intro h;simp at h
   |cons x l ih=>
    intro h;simp only[Qg,J7,Bool.and_eq_false_iff]at h;simp only[ofVs];rcases h with h|h
    ·rw[xYs h]
    ·rw[ih h];cases ofV1 x<;>rfl
  split
  ·rename_i h
   have:∀l:List Value,(l.map vOf1).all VV.one=true→ofVs l=some ((l.map vOf1).map VV.cv):=by
    intro l;induction l with
    |nil=>intro _;rfl
    |cons x l ih=>
     intro h;simp only[Qg,J7,Qc]at h;simp only[ofVs,vQe x h.1,ih h.2,Qg]
   simp only[ofV,this _ h,VV.cv,VV.zQx];rfl
  ·rename_i h
   simp only[ofV,key _ ((Bool.not_eq_true _).mp h)];rfl
 ·rfl
 ·rename_i h1 h2
  rw[wJv];congr 1;unfold ofV;split
  ·exact absurd rfl (h1 _)
  ·exact absurd rfl h2
  ·rfl
def evV(g:Nat→Option VV)(tmps:List VV):Operand→VV
 | .tmp t=>tmps.getD t .undef
 | .const v=>vOf v
 | .global i=>(g i).getD .junk
 | .func f=>.func f [] []
theorem evV_cv{g:Nat→Option VV}{cg:Nat→Option CV}(hg:∀i,cg i=(g i).map VV.cv)(tmps:List VV)(x:Operand):ev cg (tmps.map VV.cv) x=(evV g tmps x).cv:=by
 cases x with
 |tmp t=>simp only[ev,evV,List.getD,Qt];cases tmps[t]?<;>rfl
 |const v=>exact(vQd v).symm
 |global i=>simp only[ev,evV,hg];cases g i<;>rfl
 |func f=>rfl
section
variable {β:Type}
def yJk(i:TI)(vs:List VV)(off:Nat)(K:VV→Option β):Option β:=
 if i.agg=true then(if off+i.size≤vs.length then K (.agg ((vs.drop off).take i.size))else none)else
 match vs[off]? with
 |some v=>if v.one=true then K v else none
 |none=>none
theorem zKo{i:TI}{vs:List VV}{off:Nat}{K:VV→Option β}{r:β}(h:yJk i vs off K=some r):∃v,K v=some r∧zZ8 i (vs.map VV.cv) off=some v.cv:=by
 unfold yJk at h;unfold zZ8;split at h
 ·rename_i ha
  split at h<;>(try (simp at h;done))
  rename_i hl;exact⟨_,h,by simp[ha,hl,VV.cv,VV.zQx,J1,J9]⟩
 ·rename_i ha
  split at h<;>(try (simp at h;done))
  rename_i v hv;split at h<;>(try (simp at h;done))
  rename_i ho;exact⟨v,h,by simp[ha,hv,VV.vWx,ho]⟩
def isBoolV:VV→Bool
 | .bool _=>true
 |_=>false
def uWf(c a b:VV)(K:VV→Option β):Option β:=
 match c with
 | .bool t=>match a,b with
  | .bool x, .bool y=>K (.bool (Z.zQu t x y))
  |a,b=>match t with
   |true=>K a
   |false=>K b
 |_=>none
theorem vKy{c a b:VV}{K:VV→Option β}{r:β}(h:uWf c a b K=some r):∃v,K v=some r∧wJ7 c.cv a.cv b.cv=some v.cv:=by
 unfold uWf at h;split at h<;>(try (simp at h;done))
 rename_i t;split at h
 ·exact⟨_,h,by simp only[VV.cv,wJ7];cases t<;>rfl⟩
 ·split at h
  ·exact⟨a,h,by simp[VV.cv,wJ7]⟩
  ·exact⟨b,h,by simp[VV.cv,wJ7]⟩
def zV1:CV→Option VV
 | .bool b=>some (.bool b)
 | .int k n=>some (.int k n)
 | .str s=>some (.str s)
 | .nilptr=>some .nilptr
 | .slice 0 [] none true=>some .nsl
 | .nilfunc=>some .nilfunc
 | .niliface=>some .niliface
 | .nilmap=>some .nilmap
 |_=>none
def zV:List CV→Option (List VV)
 |[]=>some []
 |c::cs=>match zV1 c,zV cs with
  |some v,some vs=>some (v::vs)
  |_,_=>none
theorem zV1_cv{c:CV}{v:VV}(h:zV1 c=some v):v.cv=c:=by
 unfold zV1 at h;split at h<;>simp at h<;>subst h<;>rfl
theorem vZ9:∀{cs:List CV} {vs:List VV},zV cs=some vs→vs.map VV.cv=cs
 |[],vs,h=>by simp[zV]at h;subst h;rfl
 |c::cs,vs,h=>by
  simp only[zV]at h;split at h<;>simp at h;rename_i v vs' h1 h2;subst h;simp[zV1_cv h1,vZ9 h2]
def cOf(ty:Ty):Nat→TypeId→Option C
 |0,_=>none
 | n+1,t=>match ty t with
  |none=>none
  |some i=>match i.desc with
   | .bool=>some .bool
   | .int k=>some (.int k)
   | .string=>some .str
   | .slice e=>(cOf ty n e).map .list
   | .array len e=>(cOf ty n e).map (.arr len)
   | .struct fs=>fs.toList.foldr (fun f r=>match r,cOf ty n f.type with
     |some b,some a=>some (.pair a b)
     |_,_=>none) (some .unit)
   |_=>none
def vZw(ty:Ty)(n:Nat)(t:TypeId)(K:VV→Option VObj→Option β):Option β:=
 match ty t with
 | some j=>match j.desc with
  | .array len e=>match cOf ty 8 e with
   |some c=>if CV.yZb (vecC c (List.replicate len (dfl c))) j.zero=true then K (.ptr n 0) (some (.vec c (Z.rep len (dfl c))))else none
   |none=>none
  |_=>match zV j.zero with
   |some vs=>K (.ptr n 0) (some (.cells vs))
   |none=>none
 |none=>none
theorem vZv{ty:Ty}{n:Nat}{t:TypeId}{K:VV→Option VObj→Option β}{r:β}(h:vZw ty n t K=some r):
  ∃v o,K v o=some r∧(ty t).map (fun j=>(CV.ptr n 0,some (HObj.cells j.zero)))=some (v.cv,o.map VObj.ho):=by
 unfold vZw at h;split at h<;>(try (simp at h;done))
 rename_i j hj;split at h
 ·split at h<;>(try (simp at h;done))
  split at h<;>(try (simp at h;done))
  rename_i hs;exact⟨_,_,h,by simp[hj,VV.cv,VObj.ho,CV.zX9 _ _ hs]⟩
 ·split at h<;>(try (simp at h;done))
  rename_i vs hz;exact⟨_,_,h,by simp[hj,VV.cv,VObj.ho,vZ9 hz]⟩
def boxV(n:Nat)(x:VV)(K:VV→Option VObj→Option β):Option β:=
 match x with
 | .junk=>none
 | .av len c ds=>K (.ptr n 0) (some (.vec c (Z.norm len ds (dfl c))))
 |v=>K (.ptr n 0) (some (.cells v.flat))
theorem uXt{n:Nat}{x:VV}{K:VV→Option VObj→Option β}{r:β}(h:boxV n x K=some r):∃v o,K v o=some r∧boxC n x.cv=some (v.cv,o.map VObj.ho):=by
 unfold boxV at h;split at h<;>(try (simp at h;done))
 ·rename_i len c ds
  refine⟨_,_,h, ?_⟩;simp only[VV.cv,valC,boxC,VObj.ho,Ju,vecC,Q6,flat_agg]
 ·rename_i h1 h2
  refine⟨_,_,h, ?_⟩;have:boxC n x.cv=some (.ptr n 0,some (.cells x.cv.flat)):=by
   unfold boxC;cases x<;>first|rfl|exact absurd rfl h1|exact absurd rfl (h2 _ _ _)|(rename_i d;cases d<;>rfl)
  rw[this,VV.zYe];rfl
def wZa(place:Nat→Option (Nat×Nat))(cells:List VV):List (Nat×VV)→Option (List VV)
 |[]=>some cells
 | (i,v)::rest=>
  match place i with
  |none=>none
  |some (off,size)=>
   if v.flat.length=size∧off+size≤cells.length∧v.flat.all VV.one=true then wZa place (zQd cells off v.flat) rest else none
theorem yXq{α γ:Type}(f:α→γ)(cs:List α)(off:Nat)(news:List α):(zQd cs off news).map f=zQd (cs.map f) off (news.map f):=by
 simp[zQd,J1,J9]
theorem xZ6(vs:List VV):(vs.map VV.cv).all CV.one=vs.all VV.one:=by
 induction vs with
 |nil=>rfl
 |cons v vs ih=>simp only[Qg,J7,VV.vWx,ih]
theorem xQb{place:Nat→Option (Nat×Nat)}:∀{parts:List (Nat×VV)} {cells vs:List VV},wZa place cells parts=some vs→yKy place (cells.map VV.cv) (parts.map fun p=>(p.1,p.2.cv))=some (vs.map VV.cv)
 |[],cells,vs,h=>by simp[wZa]at h;subst h;rfl
 |(i,v)::rest,cells,vs,h=>by
  simp only[wZa]at h;simp only[Qg,yKy];split at h<;>(try (simp at h;done))
  rename_i off size hp;split at h<;>(try (simp at h;done))
  rename_i hc;rw[hp];simp only[VV.zYe,Qh,xZ6];rw[Qf hc,←yXq];exact xQb h
def vZl(ty:Ty)(t:TypeId)(parts:List (Nat×VV))(K:VV→Option β):Option β:=
 match ty t with
 | some i=>match zV i.zero with
  | some z=>match i.desc with
   | .struct fs=>
    if(fs.toList.all fun f=>(ty f.type).isSome)=true then
     match wZa (zYf ty fs) z parts with
     |some vs=>K (.agg vs)
     |none=>none
    else none
   | .array _ e=>match ty e with
    |some j=>match wZa (fun k=>some (k*j.size,j.size)) z parts with
     |some vs=>K (.agg vs)
     |none=>none
    |none=>none
   |_=>none
  |none=>none
 |none=>none
theorem vZk{ty:Ty}{t:TypeId}{parts:List (Nat×VV)}{K:VV→Option β}{r:β}(h:vZl ty t parts K=some r):∃v,K v=some r∧wWi ty t (parts.map fun p=>(p.1,p.2.cv))=some v.cv:=by
 unfold vZl at h;unfold wWi;split at h<;>(try (simp at h;done))
 rename_i i hi;split at h<;>(try (simp at h;done))
 rename_i z hz;have hzc:=vZ9 hz;split at h<;>(try (simp at h;done))
 ·rename_i fs hd
  split at h<;>(try (simp at h;done))
  rename_i hall;split at h<;>(try (simp at h;done))
  rename_i vs hf;refine⟨_,h, ?_⟩;have:=xQb hf;rw[hzc]at this;simp[hi,hd,hall,this,VV.cv,VV.zQx]
 ·rename_i n e hd
  split at h<;>(try (simp at h;done))
  rename_i j hj;split at h<;>(try (simp at h;done))
  rename_i vs hf;refine⟨_,h, ?_⟩;have:=xQb hf;rw[hzc]at this;simp[hi,hd,hj,this,VV.cv,VV.zQx]
def wQ2(k:IntKind):List VV→Option (List Int)
 |[]=>some []
 | v::vs=>match v with
  | .int k' n=>if k'=k then(match wQ2 k vs with
   |some ns=>some (n::ns)
   |none=>none)else none
  |_=>none
def arrW(n:Nat):(c:C)→List VV→Option (List (El c))
 | .int k,vs=>if vs.length=n then wQ2 k vs else none
 |_,_=>none
theorem xJn{k:IntKind}:∀{vs:List VV} {ns:List Int},wQ2 k vs=some ns→ns.length=vs.length∧vs.map VV.cv=ns.map (CV.int k)
 |[],ns,h=>by simp[wQ2]at h;subst h;exact⟨rfl,rfl⟩
 |v::vs,ns,h=>by
  simp only[wQ2]at h;split at h<;>(try (simp at h;done))
  split at h<;>(try (simp at h;done))
  rename_i k' n hk;subst hk;split at h<;>(try (simp at h;done))
  rename_i ns' hns;simp at h;subst h;obtain⟨h1,h2⟩:=xJn hns;exact⟨by simp[h1],by simp[h2,VV.cv]⟩
theorem vWl(k:IntKind)(ds:List Int):((List.range ds.length).flatMap fun i=>(valC (.int k) (ds.getD i (dfl (.int k)))).flat)=ds.map (CV.int k):=by
 have:∀l:List Nat,(l.flatMap fun i=>(valC (.int k) (ds.getD i (dfl (.int k)))).flat)=l.map fun i=>CV.int k (ds.getD i 0):=by
  intro l;induction l with
  |nil=>rfl
  |cons i l ih=>rw[Qo,ih];rfl
 rw[this];apply Jy;intro i;by_cases hi:i<ds.length
 ·simp[hi,List.getD]
 ·simp[hi]
theorem wZq{n:Nat}{c:C}{vs:List VV}{d:List (El c)}(h:arrW n c vs=some d):vs.map VV.cv=(valC (.arr n c) d).flat:=by
 unfold arrW at h;split at h
 ·split at h<;>(try (simp at h;done))
  rename_i k hl;obtain⟨h1,h2⟩:=xJn h;rw[h2];simp only[valC,flat_agg];rw[←hl,←h1];exact(vWl k d).symm
 ·simp at h
def deV:(c:C)→List VV→Option (El c)
 | .bool,vs=>match vs with
  |[.bool b]=>some b
  |_=>none
 | .int k,vs=>match vs with
  |[.int k' n]=>if k=k' then some n else none
  |_=>none
 | .str,vs=>match vs with
  |[.str s]=>some s
  |_=>none
 | .list c,vs=>match vs with
  |[.sl c' ds none false]=>if h:c'=c then some (h▸ds)else none
  |_=>none
 | .unit,vs=>match vs with
  |[]=>some ()
  |_=>none
 | .pair a b,vs=>match deV a (vs.take a.cells),deV b (vs.drop a.cells)with
  |some x,some y=>some (x,y)
  |_,_=>none
 | .arr n c,vs=>arrW n c vs
 | .mix b c,vs=>match vs with
  |[.mix b' c' d]=>if h:b'=b∧c'=c then some (h.2▸d)else none
  |[.sl c' ds none false]=>if h:c'=c then some (Z.zJt (h▸ds))else none
  |[.nsl]=>some Z.xnil
  |_=>none
theorem xW2:∀{c:C} {vs:List VV} {d:El c},deV c vs=some d→vs.map VV.cv=(valC c d).flat
 | .bool,vs,d,h=>by
  simp only[deV]at h;split at h<;>simp at h;subst h;rfl
 | .int k,vs,d,h=>by
  simp only[deV]at h;split at h<;>(try (simp at h;done))
  split at h<;>simp at h;rename_i hk;subst hk;subst h;rfl
 | .str,vs,d,h=>by
  simp only[deV]at h;split at h<;>simp at h;subst h;rfl
 | .list c,vs,d,h=>by
  simp only[deV]at h;split at h<;>(try (simp at h;done))
  split at h<;>simp at h;rename_i hk;subst hk;subst h;rfl
 | .unit,vs,d,h=>by
  simp only[deV]at h;split at h<;>simp at h;rfl
 | .pair a b,vs,d,h=>by
  simp only[deV]at h;split at h<;>simp at h;rename_i x y hx hy;subst h;rw[←Ja a.cells vs,Qw,xW2 hx,xW2 hy];rfl
 | .arr n c,vs,d,h=>by
  simp only[deV]at h;exact wZq h
 | .mix b c,vs,d,h=>by
  simp only[deV]at h;split at h<;>(try (simp at h;done))
  ·split at h<;>simp at h
   rename_i hk;obtain⟨rfl,rfl⟩:=hk;subst h;simp only[Qg,Q8,VV.cv,valC,zWd]
  ·split at h<;>simp at h
   rename_i hk;subst hk;subst h;rfl
  ·simp at h;subst h;rfl
end
end Go.Eng
/- Typed operations that read. -/
namespace Go.Eng
set_option linter.unusedVariables false
section
variable {β:Type} {ty:Ty} {h:zQa} {K:VV→Option β} {r:β}
theorem zWm{b:Nat}{vs:List VV}(hb:h[b]?=some (.cells vs)):(hc h)[b]?=some (.cells (vs.map VV.cv)):=by rw[zQ6,hb];rfl
theorem zWr{b:Nat}{c:C}{ds:List (El c)}(hb:h[b]?=some (.vec c ds)):(hc h)[b]?=some (.cells (vecC c ds)):=by rw[zQ6,hb];rfl
def zKh(h:zQa)(b:Nat):Bool:=
 match h[b]? with
 |some .dead=>false
 |none=>false
 |some _=>true
theorem zWf(h:zQa)(b:Nat):live (hc h) b=zKh h b:=by
 unfold live zKh;rw[zQ6];cases h[b]? with
 |none=>rfl
 |some o=>cases o<;>rfl
theorem xK3{j:TI}{c:C}{ds:List (El c)}{i:Nat}(ha:j.agg=c.agg)(hs:j.size=c.cells)(hi:i<ds.length)(h1:j.agg=false→j.size=1):zZ8 j (vecC c ds) (i*c.cells)=some (valC c (ds.getD i (dfl c))):=by
 have hd:(vecC c ds).drop (i*c.cells)=(valC c (ds.getD i (dfl c))).flat++vecC c (ds.drop (i+1)):=by
  rw[zWh];have:ds.drop i=ds.getD i (dfl c)::ds.drop (i+1):=by
   rw[Jl hi];simp[List.getD,hi]
  rw[this];rfl
 have hlen:=zQp c ds;have hle:i*c.cells+c.cells≤ds.length*c.cells:=by rw[←Kg];exact Qn _ hi
 unfold zZ8;cases hag:j.agg with
 |true=>
  rw[Qf rfl,Qf (by rw[hs];omega),hd,hs]
  rw[Js (by rw[zQt];exact Qe _),Q9 (by rw[zQt];exact Qe _)]
  rw[hag]at ha;cases c<;>simp[C.agg]at ha<;>rfl
 | false=>
  have hz:=h1 hag;rw[hag]at ha;have hone:=zKi c (ds.getD i (dfl c));have hfl:(valC c (ds.getD i (dfl c))).flat=[valC c (ds.getD i (dfl c))]:=by cases c<;>simp[C.agg]at ha<;>first|rfl|exact zWd _ _ _ _
  rw[hfl]at hone hd;simp at hone;have hget:(vecC c ds)[i*c.cells]?=some (valC c (ds.getD i (dfl c))):=by
   have:=Kr (fun l=>l[0]?) hd
   simpa using this
  simp[hget,hone]
theorem zJn{b:Nat}{c:C}{dss:List (List (El c))}(hb:h[b]?=some (.rows c dss)):(hc h)[b]?=some (.rows (dss.map (vecC c))):=by rw[zQ6,hb];rfl
theorem zJg{b:Nat}{c:C}{dss:List (List (El c))}(hb:h[b]? =some (.rows c dss)){k gen:Nat}(hk:k<dss.length)(hg:gen=(dss.getD k []).length):
  rowG (hc h) b k (gen*c.cells)=some (vecC c (dss.getD k [])):=by
 unfold rowG;rw[zJn hb];simp only[Qt];have e:dss[k]?=some (dss.getD k []):=by simp[List.getD,hk]
 rw[e];simp only[Ju,zQp,hg,if_true]
theorem yK8{α:Type}{m:List (List α)}{d:MixE α}{i:Nat}(h:d.xpt m i=true):
  ∃k off n gen,d=.ref k off n gen∧k<m.length∧gen=(m.getD k []).length∧off+n≤gen∧i<n:=by
 cases d with
 |ref k off n gen=>simp only[MixE.xpt,Qc,decide_eq_true_eq,beq_iff_eq]at h;exact⟨k,off,n,gen,rfl,h.1,h.2.1,h.2.2.1,h.2.2.2⟩
 |_=>simp[MixE.xpt]at h
def fitC(j:TI)(c:C):Bool:=j.agg==c.agg&&j.size==c.cells&&(j.agg||j.size==1)
theorem zXv{j:TI}{c:C}(h:fitC j c=true):j.agg=c.agg∧j.size=c.cells∧(j.agg=false→j.size=1):=by
 simp only[fitC,Qc,beq_iff_eq,Kp]at h;exact⟨h.1.1,h.1.2,fun ha=>by rcases h.2 with h2|h2<;>simp_all⟩
def vJe (ty:Ty)(h:zQa)(t:TypeId)(x:VV)(K:VV→Option β):Option β:=
  match ty t with
  | some j =>
    match x with
    | .ptr b off=>match h[b]? with
      |some (.cells vs)=>yJk j vs off K
      | some (.vec c ds)=>match off,j.desc with
        |0, .array n _=>if j.size=n*c.cells∧j.agg=true then(if Z.EqN (Z.len ds) n then K (.av n c ds)else none)else none
        |_,_=>none
      |_=>none
    | .ptrE b i c=>match h[b]? with
      |some (.vec c' ds)=>if c'=c∧fitC j c'=true then(if Z.Lt i (Z.len ds)then Z.bnd (Z.get ds i (dfl c')) fun x=>K (valV c' x)else none)else none
      |_=>none
    | .ptrF b i c o=>match h[b]? with
      |some (.vec c' ds)=>if c'=c then(if Z.Lt i (Z.len ds)then Z.bnd (Z.get ds i (dfl c')) fun x=>yJk j (zJs c' x) o K else none)else none
      |_=>none
    | .xptr b c d i o=>match h[b]? with
      |some (.rows c' dss)=>if hcc:c'=c then(if Z.XPt (hcc▸dss:List (List (El c))) d i then
          (if o=0∧fitC j c=true then Z.bnd (Z.xat (hcc▸dss:List (List (El c))) d i (dfl c)) fun x=>K (valV c x)
           else Z.bnd (Z.xat (hcc▸dss:List (List (El c))) d i (dfl c)) fun x=>yJk j (zJs c x) o K)else none)else none
      |_=>none
    | .rop v=>match v with
      | .agg vs=>if j.agg=true∧vs.length=j.size then K (.agg vs)else none
      | .av n c ds=>if j.agg=true∧n*c.cells=j.size then K (.av n c ds)else none
      |v=>if(!j.agg)=true∧v.one=true then K v else none
    |_=>none
  |none=>none
theorem av_len(n:Nat)(c:C)(ds:List (El c)):((List.range n).flatMap fun i=>(valC c (ds.getD i (dfl c))).flat).length=n*c.cells:=zQt (.arr n c) ds
theorem vWr{j:TI}{c:C}{ds:List (El c)}{i o:Nat}{v:CV}(hi:i<ds.length)(h:zZ8 j (valC c (ds.getD i (dfl c))).flat o=some v):zZ8 j (vecC c ds) (i*c.cells+o)=some v:=by
 have e1:ds.getD i (dfl c)=ds[i]:=by simp[List.getD,hi]
 rw[e1]at h;have hd:(vecC c ds).drop (i*c.cells)=(valC c ds[i]).flat++vecC c (ds.drop (i+1)):=by
  rw[zWh,Jl hi];rfl
 have hl:i*c.cells+c.cells≤(vecC c ds).length:=by rw[zQp,←Kg];exact Qn _ hi
 unfold zZ8 at h⊢;split at h
 ·rename_i ha
  rw[Qf ha];split at h
  ·rename_i hle
   rw[zQt]at hle;rw[Qf (by omega),←List.drop_drop,hd]
   rw[←h];congr 2;rw[List.drop_append_of_le_length (by rw[zQt];omega),Js (by rw[J6,zQt];omega)]
  ·simp at h
 ·rename_i ha
  rw[Qi ha];have:(vecC c ds)[i*c.cells+o]?=((vecC c ds).drop (i*c.cells))[o]?:=by rw[Jr]
  rw[this,hd];cases hx:(valC c ds[i]).flat[o]? with
  |none=>rw[hx]at h;simp at h
  |some x=>
   rw[Qb (List.getElem?_eq_some_iff.1 hx).1,hx];rw[hx]at h;exact h
theorem wK5{t:TypeId}{x:VV}(he:vJe ty h t x K=some r):∃v,K v=some r∧yJs ty (hc h) t x.cv=some v.cv:=by
 unfold vJe at he;unfold yJs;split at he<;>(try (simp at he;done))
 rename_i j hj;split at he<;>(try (simp at he;done))
 ·rename_i b off
  split at he<;>(try (simp at he;done))
  ·rename_i vs hb
   obtain⟨v,h1,h2⟩:=zKo he;exact⟨v,h1,by simp only[hj,VV.cv,zWm hb];exact h2⟩
  ·rename_i c ds hb
   split at he<;>(try (simp at he;done))
   rename_i n e hd;split at he<;>(try (simp at he;done))
   rename_i hcond;obtain⟨h2,h3⟩:=hcond;split at he<;>(try (simp at he;done))
   rename_i h1;replace h1:ds.length=n:=h1;refine⟨_,he, ?_⟩;simp only[hj,VV.cv,zWr hb];unfold zZ8;have hl:=zQp c ds;rw[Qf h3,Qf (by rw[h2,hl,h1];omega),Jt,Q9 (by rw[hl,h1,h2];exact Qe _)]
   congr 1;simp only[valC];congr 1;subst h1;have:∀(l:List (El c)),vecC c l=(List.range l.length).flatMap fun i=>(valC c (l.getD i (dfl c))).flat:=by
    intro l;have e:l=(List.range l.length).map fun i=>l.getD i (dfl c):=by
     apply Jy;intro i;by_cases hi:i<l.length<;>simp[hi,List.getD]
    unfold vecC
    conv=>lhs;rw[e]
    rw[Q6]
   exact this ds
 ·rename_i b i c
  split at he<;>(try (simp at he;done))
  rename_i c' ds hb;split at he<;>(try (simp at he;done))
  rename_i hcond;obtain⟨rfl,hfit⟩:=hcond;split at he<;>(try (simp at he;done))
  rename_i hi;obtain⟨f1,f2,f3⟩:=zXv hfit;refine⟨_,he, ?_⟩;simp only[hj,VV.cv,zWr hb,zQv];exact xK3 f1 f2 hi f3
 ·rename_i b i c o
  split at he<;>(try (simp at he;done))
  rename_i c' ds hb;split at he<;>(try (simp at he;done))
  rename_i hcc;subst hcc;split at he<;>(try (simp at he;done))
  rename_i hi;obtain⟨v,h1,h2⟩:=zKo he;refine⟨v,h1, ?_⟩;simp only[hj,VV.cv,zWr hb];rw[zKu]at h2;exact vWr hi h2
 ·rename_i b c d i o
  split at he<;>(try (simp at he;done))
  rename_i c' dss hb;split at he<;>(try (simp at he;done))
  rename_i hcc;subst hcc;split at he<;>(try (simp at he;done))
  rename_i hx;obtain⟨k,off,n,gen,rfl,h1,h2,h3,h4⟩:=yK8 hx;replace h1:k<dss.length:=h1;replace h2:gen=(dss.getD k []).length:=h2;have hi:off+i<(dss.getD k []).length:=by omega
  split at he
  ·rename_i hcond
   obtain⟨rfl,hfit⟩:=hcond;obtain⟨f1,f2,f3⟩:=zXv hfit;refine⟨_,he, ?_⟩;simp only[hj,VV.cv,zJg hb h1 h2,Ks,zQv];exact xK3 f1 f2 hi f3
  ·obtain⟨v,e1,e2⟩:=zKo he
   refine⟨v,e1, ?_⟩;simp only[hj,VV.cv,zJg hb h1 h2];rw[zKu]at e2;exact vWr hi e2
 ·rename_i v
  split at he
  ·split at he<;>(try (simp at he;done))
   rename_i vs hcond;exact⟨_,he,by simp only[hj,VV.cv,VV.zQx,Qh];rw[Qf hcond]⟩
  ·split at he<;>(try (simp at he;done))
   rename_i n c ds hcond;exact⟨_,he,by simp only[hj,VV.cv,valC];rw[Qf ⟨hcond.1,by rw[av_len];exact hcond.2⟩]⟩
  ·rename_i hn1 hn2
   split at he<;>(try (simp at he;done))
   rename_i hcond;refine⟨_,he, ?_⟩;simp only[hj,VV.cv];split
   ·rename_i cs hcs
    cases v<;>simp[VV.cv,zWt]at hcs
    ·rename_i n c ds;exact absurd rfl (hn2 n c ds)
    ·rename_i d;cases d<;>simp[valC,mixC]at hcs
    ·rename_i vs;exact absurd rfl (hn1 vs)
   ·rw[VV.vWx,Qf hcond]
def xWk(h:zQa)(x:VV)(K:VV→Option β):Option β:=
 match x with
 | .ptr b off=>if zKh h b=true then K (.ptr b off)else none
 | .ptrE b i c=>if zKh h b=true then K (.ptrE b i c)else none
 | .ptrF b i c o=>if zKh h b=true then K (.ptrF b i c o)else none
 | .xptr b c d i o=>match h[b]? with
  |some (.rows c' dss)=>if hcc:c'=c then(if Z.XPt (hcc▸dss:List (List (El c))) d i then K (.xptr b c d i o)else none)else none
  |_=>none
 | .rop v=>K (.rop v)
 | .func f xs ys=>K (.func f xs ys)
 |_=>none
theorem wQm{x:VV}(he:xWk h x K=some r):∃v,K v=some r∧zW6 (hc h) x.cv=some v.cv:=by
 unfold xWk at he;split at he<;>(try (simp at he;done))
 ·split at he<;>(try (simp at he;done))
  rename_i hl;exact⟨_,he,by simp[VV.cv,zW6,zWf,hl]⟩
 ·split at he<;>(try (simp at he;done))
  rename_i hl;exact⟨_,he,by simp[VV.cv,zW6,zWf,hl]⟩
 ·split at he<;>(try (simp at he;done))
  rename_i hl;exact⟨_,he,by simp[VV.cv,zW6,zWf,hl]⟩
 ·rename_i b c d i o
  split at he<;>(try (simp at he;done))
  rename_i c' dss hb;split at he<;>(try (simp at he;done))
  rename_i hcc;subst hcc;split at he<;>(try (simp at he;done))
  rename_i hx;obtain⟨k,off,n,gen,rfl,h1,h2,h3,h4⟩:=yK8 hx;replace h1:k<dss.length:=h1;replace h2:gen=(dss.getD k []).length:=h2;exact⟨_,he,by simp only[VV.cv,zW6,zJg hb h1 h2]⟩
 ·exact⟨_,he,by simp[VV.cv,zW6]⟩
 ·exact⟨_,he,by simp[VV.cv,zW6]⟩
def intV(op:BinOp)(k:IntKind)(a b:Int)(K:VV→Option β):Option β:=
 match op with
 | .add=>Z.bnd (Z.wrap k (Z.add a b)) fun x=>K (.int k x)
 | .sub=>Z.bnd (Z.wrap k (Z.sub a b)) fun x=>K (.int k x)
 | .mul=>Z.bnd (Z.wrap k (Z.mul a b)) fun x=>K (.int k x)
 | .quo=>if Z.IsZ b then none else Z.bnd (Z.wrap k (Z.tdiv a b)) fun x=>K (.int k x)
 | .rem=>if Z.IsZ b then none else Z.bnd (Z.tmod a b) fun x=>K (.int k x)
 | .and=>Z.bnd (Z.band k a b) fun x=>K (.int k x)
 | .or=>Z.bnd (Z.bor k a b) fun x=>K (.int k x)
 | .xor=>Z.bnd (Z.bxor k a b) fun x=>K (.int k x)
 | .andNot=>Z.bnd (Z.bandn k a b) fun x=>K (.int k x)
 | .eql=>K (.bool (Z.ieq a b))
 | .neq=>K (.bool (Z.ine a b))
 | .lss=>K (.bool (Z.ilt a b))
 | .leq=>K (.bool (Z.ile a b))
 | .gtr=>K (.bool (Z.igt a b))
 | .geq=>K (.bool (Z.ige a b))
 | .shl| .shr=>none
theorem uW0{op:BinOp}{k:IntKind}{a b:Int}(he:intV op k a b K=some r):∃v,K v=some r∧intC op k a b=some v.cv:=by
  unfold intV at he;split at he<;>(try (simp at he;done))<;>first
    |exact⟨_,he,rfl⟩
    | (split at he<;>(try (simp at he;done))
       rename_i hb;exact⟨_,he,by simp[intC,hb,VV.cv]⟩)
def wKi(op:BinOp)(k:IntKind)(a b:Int)(K:VV→Option β):Option β:=
 match op with
 | .shl=>if Z.Neg b then none else Z.bnd (Z.shl k a b) fun x=>K (.int k x)
 | .shr=>if Z.Neg b then none else Z.bnd (Z.shr k a b) fun x=>K (.int k x)
 |_=>none
theorem xYy{op:BinOp}{k:IntKind}{a b:Int}(he:wKi op k a b K=some r):∃v,K v=some r∧xYz op k a b=some v.cv:=by
  unfold wKi at he;split at he<;>(try (simp at he;done))<;>
    (split at he<;>(try (simp at he;done))
     rename_i hb;exact⟨_,he,by simp[xYz,hb,VV.cv]⟩)
def strV(op:BinOp)(a b:List UInt8)(K:VV→Option β):Option β:=
 match op with
 | .add=>if Z.SBig (Z.len a) (Z.len b)then Z.bnd (Z.app a b) fun x=>K (.str x)else none
 | .eql=>K (.bool (Z.seq a b))
 | .neq=>K (.bool (Z.sne a b))
 | .lss=>K (.bool (Z.slt a b))
 |_=>none
theorem uQh{op:BinOp}{a b:List UInt8}(he:strV op a b K=some r):∃v,K v=some r∧strC op a b=some v.cv:=by
 unfold strV at he;split at he<;>(try (simp at he;done))
 ·split at he<;>(try (simp at he;done))
  rename_i hb;exact⟨_,he,by simp only[strC];rw[Qf hb];rfl⟩
 all_goals exact⟨_,he,rfl⟩
def unV(op:UnOp)(x:VV)(K:VV→Option β):Option β:=
 match op,x with
 | .not, .bool b=>K (.bool (Z.bnot b))
 | .neg, .int k n=>Z.bnd (Z.wrap k (Z.sub 0 n)) fun x=>K (.int k x)
 | .xor, .int k n=>Z.bnd (Z.bxor k (if k.signed then -1 else k.max) n) fun x=>K (.int k x)
 |_,_=>none
theorem unV_ok{op:UnOp}{x:VV}(he:unV op x K=some r):∃v,K v=some r∧unC op x.cv=some v.cv:=by
 unfold unV at he;split at he<;>(try (simp at he;done))<;>exact⟨_,he,rfl⟩
def yJx(ty:Ty)(h:zQa)(s:TypeId)(x:VV)(f:Nat)(K:VV→Option β):Option β:=
 match ty s with
 | some i=>match i.desc with
  | .struct fs=>match fs[f]? with
   | some fld=>match ty fld.type with
    | some j=>if j.size=0 then none else
     match x with
     | .ptr b off=>if zKh h b=true then K (.ptr b (off+fld.offset))else none
     | .ptrE b i c=>if zKh h b=true then K (.ptrF b i c fld.offset)else none
     | .ptrF b i c o=>if zKh h b=true then K (.ptrF b i c (o+fld.offset))else none
     | .xptr b c d i o=>match h[b]? with
      |some (.rows c' dss)=>if hcc:c'=c then(if Z.XPt (hcc▸dss:List (List (El c))) d i then K (.xptr b c d i (o+fld.offset))else none)else none
      |_=>none
     | .rop v=>yJk j v.flat fld.offset fun u=>K (.rop u)
     |_=>none
    |none=>none
   |none=>none
  |_=>none
 |none=>none
theorem xJx{s:TypeId}{x:VV}{f:Nat}(he:yJx ty h s x f K=some r):∃v,K v=some r∧zXo ty (hc h) s x.cv f=some v.cv:=by
 unfold yJx at he;unfold zXo;split at he<;>(try (simp at he;done))
 rename_i i hi;split at he<;>(try (simp at he;done))
 rename_i fs hd;split at he<;>(try (simp at he;done))
 rename_i fld hf;split at he<;>(try (simp at he;done))
 rename_i j hj;split at he<;>(try (simp at he;done))
 rename_i hz;split at he<;>(try (simp at he;done))
 ·split at he<;>(try (simp at he;done))
  rename_i hl;exact⟨_,he,by simp[hi,hd,hf,hj,hz,VV.cv,zWf,hl]⟩
 ·split at he<;>(try (simp at he;done))
  rename_i hl;exact⟨_,he,by simp[hi,hd,hf,hj,hz,VV.cv,zWf,hl]⟩
 ·split at he<;>(try (simp at he;done))
  rename_i hl;exact⟨_,he,by simp[hi,hd,hf,hj,hz,VV.cv,zWf,hl,Jp]⟩
 ·rename_i b c d i0 o
  split at he<;>(try (simp at he;done))
  rename_i c' dss hb;split at he<;>(try (simp at he;done))
  rename_i hcc;subst hcc;split at he<;>(try (simp at he;done))
  rename_i hx;obtain⟨k,off,n,gen,rfl,h1,h2,h3,h4⟩:=yK8 hx;replace h1:k<dss.length:=h1;replace h2:gen=(dss.getD k []).length:=h2;exact⟨_,he,by simp only[hi,hd,hf,hj,hz,VV.cv,zJg hb h1 h2,if_false,Jp]⟩
 ·obtain⟨u,h1,h2⟩:=zKo he
  exact⟨_,h1,by simp[hi,hd,hf,hj,hz,VV.cv,VV.zYe,h2]⟩
def vXt(ty:Ty)(t:TypeId)(x:VV)(f:Nat)(K:VV→Option β):Option β:=
 match ty t,x with
 | some i, .agg vs=>match i.desc with
  | .struct fs=>match fs[f]? with
   |some fld=>match ty fld.type with
    |some j=>yJk j vs fld.offset K
    |none=>none
   |none=>none
  |_=>none
 |_,_=>none
theorem vXs{t:TypeId}{x:VV}{f:Nat}(he:vXt ty t x f K=some r):∃v,K v=some r∧wQ9 ty t x.cv f=some v.cv:=by
 unfold vXt at he;split at he<;>(try (simp at he;done))
 rename_i i vs hi;split at he<;>(try (simp at he;done))
 rename_i fs hd;split at he<;>(try (simp at he;done))
 rename_i fld hf;split at he<;>(try (simp at he;done))
 rename_i j hj;obtain⟨u,h1,h2⟩:=zKo he;exact⟨_,h1,by simp[wQ9,hi,hd,hf,hj,VV.cv,VV.zQx,h2]⟩
def yJu (ty:Ty)(h:zQa)(t:TypeId)(x ix:VV)(K:VV→Option β):Option β:=
 match ix with
 | .int _ n=>
  match ty t with
  | some i=>match i.desc with
   | .array len e=>match ty e with
    | some j=>if Z.In n len then
      match x with
      | .ptr b off=>match h[b]? with
       |some (.vec c ds)=>if off=0∧j.size=c.cells then K (.ptrE b (Z.toN n) c)else none
       |some (.cells _)=>K (.ptr b (off+n.toNat*j.size))
       |_=>none
      | .rop (.av m c ds)=>if m=len∧fitC j c=true then Z.bnd (Z.get ds (Z.toN n) (dfl c)) fun x=>K (.rop (valV c x))else none
      | .rop (.agg vs)=>yJk j vs (n.toNat*j.size) fun u=>K (.rop u)
      |_=>none
     else none
    |none=>none
   | .slice e=>match ty e with
    | some j=>
      match x with
      | .sl c ds _ _=>if c.cells=j.size then(if Z.Ix n (Z.len ds)then Z.bnd (Z.get ds (Z.toN n) (dfl c)) fun x=>K (.rop (valV c x))else none)else none
      | .sref b off len _ _ c=>if c.cells=j.size then(if Z.In n len then match h[b]? with
        |some (.vec c' ds)=>(match decide (c'.cells=c.cells)with
         |true=>K (.ptrE b (Z.addN off (Z.toN n)) c')
         |false=>K (.ptrE b (Z.addN off (Z.toN n)) c))
        |some (.cells _)=>K (.ptr b ((off+n.toNat)*c.cells))
        |_=>none
       else none)else none
      | .mix b c d=>if c.cells=j.size then(match h[b]? with
        |some (.rows c' dss)=>if hcc:c'=c then(if Z.Ix n (Z.xlen d)then(if Z.XPt (hcc▸dss:List (List (El c))) d (Z.toN n)then K (.xptr b c d (Z.toN n) 0)else none)else none)else none
        |_=>none)else none
      |_=>none
    |none=>none
   |_=>none
  |none=>none
 |_=>none
theorem vZr{j:TI}{c:C}{m:Nat}{ds:List (El c)}{i:Nat}(ha:j.agg=c.agg)(hs:j.size=c.cells)(hi:i<m)(h1:j.agg=false→j.size=1):zZ8 j ((List.range m).flatMap fun i=>(valC c (ds.getD i (dfl c))).flat) (i*c.cells)=some (valC c (ds.getD i (dfl c))):=by
 have:((List.range m).flatMap fun i=>(valC c (ds.getD i (dfl c))).flat)=vecC c ((List.range m).map fun i=>ds.getD i (dfl c)):=by simp[vecC,Q6]
 rw[this,xK3 ha hs (by simpa using hi) h1]
 congr 2;simp[List.getD,hi]
theorem xJp{t:TypeId}{x ix:VV}(he:yJu ty h t x ix K=some r):∃v,K v=some r∧zXg ty (hc h) t x.cv ix.cv=some v.cv:=by
 unfold yJu at he;unfold zXg;split at he<;>(try (simp at he;done))
 rename_i k n;split at he<;>(try (simp at he;done))
 rename_i i hi;split at he<;>(try (simp at he;done))
 ·rename_i len e hd
  split at he<;>(try (simp at he;done))
  rename_i j hj;split at he<;>(try (simp at he;done))
  rename_i hn;split at he<;>(try (simp at he;done))
  ·rename_i b off
   split at he<;>(try (simp at he;done))
   ·rename_i c ds hb
    split at he<;>(try (simp at he;done))
    rename_i hcond;obtain⟨rfl,hs⟩:=hcond;exact⟨_,he,by simp[VV.cv,hi,hd,hj,hn,zWf,zKh,hb,hs]⟩
   ·rename_i vs hb
    exact⟨_,he,by simp[VV.cv,hi,hd,hj,hn,zWf,zKh,hb]⟩
  ·rename_i m c ds
   split at he<;>(try (simp at he;done))
   rename_i hcond;obtain⟨rfl,hfit⟩:=hcond;obtain⟨f1,f2,f3⟩:=zXv hfit;refine⟨_,he, ?_⟩;simp only[VV.cv,hi,hd,hj];rw[Qf hn];have:=vZr (m:=m) (ds:=ds) f1 f2 (by omega:n.toNat<m) f3
   simp only[valC,flat_agg];rw[f2,this];simp[zQv]
  ·obtain⟨u,h1,h2⟩:=zKo he
   exact⟨_,h1,by simp[VV.cv,hi,hd,hj,hn,VV.zQx,flat_agg,h2]⟩
 ·rename_i e hd
  split at he<;>(try (simp at he;done))
  rename_i j hj;split at he<;>(try (simp at he;done))
  ·rename_i c ds tok full
   split at he<;>(try (simp at he;done))
   rename_i hs;split at he<;>(try (simp at he;done))
   rename_i hn;refine⟨_,he, ?_⟩;simp only[VV.cv,hi,hd,hj];rw[Qf hn.1,Qf hs];simp[hn.2,zQv]
  ·rename_i b off len cap ex c
   split at he<;>(try (simp at he;done))
   rename_i hs;split at he<;>(try (simp at he;done))
   rename_i hn;split at he<;>(try (simp at he;done))
   ·rename_i c' ds hb
    split at he
    ·rename_i hce
     have hce:c'.cells=c.cells:=K9 hce;refine⟨_,he, ?_⟩;simp only[VV.cv,hi,hd,hj,hce];rw[Qf hn.1,Qf ⟨hs,hn.2,by simp[zWf,zKh,hb]⟩,←hs,←Qz]
    ·refine⟨_,he, ?_⟩
     simp only[VV.cv,hi,hd,hj];rw[Qf hn.1,Qf ⟨hs,hn.2,by simp[zWf,zKh,hb]⟩,←hs,←Qz]
   ·rename_i vs hb
    refine⟨_,he, ?_⟩;simp only[VV.cv,hi,hd,hj];rw[Qf hn.1,Qf ⟨hs,hn.2,by simp[zWf,zKh,hb]⟩,←hs,←Qz]
  ·rename_i b c d
   split at he<;>(try (simp at he;done))
   rename_i hs;split at he<;>(try (simp at he;done))
   rename_i c' dss hb;split at he<;>(try (simp at he;done))
   rename_i hcc;subst hcc;split at he<;>(try (simp at he;done))
   rename_i hn;split at he<;>(try (simp at he;done))
   rename_i hx;obtain⟨k,off,m,gen,rfl,h1,h2,h3,h4⟩:=yK8 hx;replace h1:k<dss.length:=h1;replace h2:gen=(dss.getD k []).length:=h2;have hn1:(0:Int)≤n:=hn.1
   have hlt:n<(m:Int):=by have:n.toNat<m:=h4;omega
   refine⟨_,he, ?_⟩;simp only[VV.cv,hi,hd,hj,valC,mixC,zJg hb h1 h2];rw[Qf hn1,Qf ⟨hs,hlt⟩,←hs,←Qz];rfl
def vXk(ty:Ty)(t:TypeId)(x ix:VV)(K:VV→Option β):Option β:=
 match ty t,ix with
 | some i, .int _ n=>
  match i.desc,x with
  | .array len e, .agg vs=>match ty e with
   |some j=>if Z.In n len then yJk j vs (n.toNat*j.size) K else none
   |none=>none
  | .array len e, .av m c ds=>match ty e with
   |some j=>if m=len∧fitC j c=true then(if Z.In n len then Z.bnd (Z.get ds (Z.toN n) (dfl c)) fun x=>K (valV c x)else none)else none
   |none=>none
  | .string, .str s=>if Z.Ix n (Z.len s)then Z.bnd (Z.sget s (Z.toN n)) fun x=>K (.int .u8 x)else none
  |_,_=>none
 |_,_=>none
theorem vXj{t:TypeId}{x ix:VV}(he:vXk ty t x ix K=some r):∃v,K v=some r∧xWr ty t x.cv ix.cv=some v.cv:=by
 unfold vXk at he;split at he<;>(try (simp at he;done))
 rename_i i k n hi;split at he<;>(try (simp at he;done))
 ·rename_i len e vs hd
  split at he<;>(try (simp at he;done))
  rename_i j hj;split at he<;>(try (simp at he;done))
  rename_i hn;obtain⟨u,h1,h2⟩:=zKo he;exact⟨_,h1,by simp[xWr,VV.cv,hi,hd,hj,hn,VV.zQx,h2]⟩
 ·rename_i len e m c ds hd
  split at he<;>(try (simp at he;done))
  rename_i j hj;split at he<;>(try (simp at he;done))
  rename_i hcond;obtain⟨rfl,hfit⟩:=hcond;split at he<;>(try (simp at he;done))
  rename_i hn;obtain⟨f1,f2,f3⟩:=zXv hfit;refine⟨_,he, ?_⟩;have:=vZr (m:=m) (ds:=ds) f1 f2 (by omega:n.toNat<m) f3
  simp only[xWr,VV.cv,hi,hd,hj,valC];rw[Qf hn,f2,this,zQv]
 ·rename_i s hd
  split at he<;>(try (simp at he;done))
  rename_i hn;refine⟨_,he, ?_⟩;simp only[xWr,VV.cv,hi,hd];rw[Qf hn.1];have h2:n.toNat<s.length:=hn.2;simp[Z.sget,Z.toN,List.getD,h2]
def xJz(x:VV)(i:Nat)(K:VV→Option β):Option β:=
 match x with
 | .tuple vs=>match vs[i]? with
  |some v=>K v
  |none=>none
 |_=>none
theorem wZb{x:VV}{i:Nat}(he:xJz x i K=some r):∃v,K v=some r∧yK0 x.cv i=some v.cv:=by
 unfold xJz at he;split at he<;>(try (simp at he;done))
 split at he<;>(try (simp at he;done))
 rename_i v hv;exact⟨v,he,by simp[yK0,VV.cv,VV.zQx,hv]⟩
def lenV(ty:Ty)(h:zQa)(t:TypeId)(x:VV)(K:VV→Option β):Option β:=
 match ty t with
 |none=>none
 |some i=>
  match i.desc,x with
  | .string, .str s=>K (.int .i64 (Z.ofN (Z.len s)))
  | .array n _,_=>K (.int .i64 n)
  | .slice _, .sl c ds _ _=>K (.int .i64 (Z.ofN (Z.len ds)))
  | .slice _, .nsl=>K (.int .i64 0)
  | .slice _, .sref b _ len _ _ _=>if zKh h b=true then K (.int .i64 (Z.ofN len))else none
  | .slice _, .mix _ c d=>K (.int .i64 (Z.ofN (Z.xlen d)))
  |_,_=>none
theorem uWx{t:TypeId}{x:VV}(he:lenV ty h t x K=some r):∃v,K v=some r∧lenC ty (hc h) t x.cv=some v.cv:=by
 unfold lenV at he;split at he<;>(try (simp at he;done))
 rename_i i hi;split at he<;>(try (simp at he;done))
 ·rename_i hd;exact⟨_,he,by simp[lenC,hi,hd,VV.cv]⟩
 ·rename_i hd;exact⟨_,he,by simp[lenC,hi,hd,VV.cv]⟩
 ·rename_i hd;exact⟨_,he,by simp[lenC,hi,hd,VV.cv]⟩
 ·rename_i hd;exact⟨_,he,by simp[lenC,hi,hd,VV.cv]⟩
 ·split at he<;>(try (simp at he;done))
  rename_i hd hl;exact⟨_,he,by simp[lenC,hi,hd,VV.cv,zWf,hl]⟩
 ·rename_i e b c d hd
  refine⟨_,he, ?_⟩;cases d<;>simp[lenC,hi,hd,VV.cv,valC,mixC]
def capV(ty:Ty)(h:zQa)(t:TypeId)(x:VV)(K:VV→Option β):Option β:=
 match ty t with
 |none=>none
 |some i=>
  match i.desc,x with
  | .slice _, .sl c ds _ true=>K (.int .i64 (Z.ofN (Z.len ds)))
  | .slice _, .nsl=>K (.int .i64 0)
  | .slice _, .sref b _ _ cap true _=>if zKh h b=true then K (.int .i64 (Z.ofN cap))else none
  |_,_=>none
theorem uXm{t:TypeId}{x:VV}(he:capV ty h t x K=some r):∃v,K v=some r∧capC ty (hc h) t x.cv=some v.cv:=by
 unfold capV at he;split at he<;>(try (simp at he;done))
 rename_i i hi;split at he<;>(try (simp at he;done))
 ·rename_i hd;exact⟨_,he,by simp[capC,hi,hd,VV.cv]⟩
 ·rename_i hd;exact⟨_,he,by simp[capC,hi,hd,VV.cv]⟩
 ·split at he<;>(try (simp at he;done))
  rename_i hd hl;exact⟨_,he,by simp[capC,hi,hd,VV.cv,zWf,hl]⟩
end
end Go.Eng
/- Typed operations: slices, conversions, and those that turn memory. -/
namespace Go.Eng
set_option linter.unusedVariables false
section
variable {β:Type} {ty:Ty} {h:zQa} {K:VV→Option β} {r:β}
theorem yQm{j:TI}{c:C}(hf:fitC j c=true):∀(ds:List (El c)),chunks j.agg j.size ds.length (vecC c ds)=ds.map (valC c):=by
 obtain⟨f1,f2,f3⟩:=zXv hf;intro ds;induction ds with
 |nil=>rfl
 | cons d ds ih=>
  have hv:vecC c (d::ds)=(valC c d).flat++vecC c ds:=rfl;simp only[Jc,chunks,Qg];rw[hv,f2];have hdrop:((valC c d).flat++vecC c ds).drop c.cells=vecC c ds:=by
   rw[List.drop_append_of_le_length (by rw[zQt];exact Qe _),Ws (by rw[zQt];exact Qe _)];simp
  have htake:((valC c d).flat++vecC c ds).take c.cells=(valC c d).flat:=by
   rw[Js (by rw[zQt];exact Qe _),Q9 (by rw[zQt];exact Qe _)]
  rw[hdrop,←f2,ih];congr 1;cases hag:j.agg with
  |true=>
   rw[hag]at f1;rw[Qf rfl,f2,htake];cases c<;>simp[C.agg]at f1<;>rfl
  |false=>
   rw[hag]at f1;simp only[Jv,if_false];have:(valC c d).flat=[valC c d]:=by cases c<;>simp[C.agg]at f1<;>first|rfl|exact zWd _ _ _ _
   rw[this];rfl
def deVs(c:C):Nat→List VV→Option (List (El c))
 |0,_=>some []
 |n+1,vs=>match deV c (vs.take c.cells),deVs c n (vs.drop c.cells)with
  |some d,some ds=>some (d::ds)
  |_,_=>none
theorem xW1{c:C}:∀{n:Nat} {vs:List VV} {ds:List (El c)},deVs c n vs=some ds→vs.length=n*c.cells→vs.map VV.cv=vecC c ds
 |0,vs,ds,h,hl=>by simp[deVs]at h;subst h;simp at hl;subst hl;rfl
 |n+1,vs,ds,h,hl=>by
  simp only[deVs]at h;split at h<;>simp at h;rename_i d ds' h1 h2;subst h;rw[←Ja c.cells vs,Qw,xW2 h1,xW1 h2 (by simp[hl,Kg])];rfl
theorem xJ4{c:C}:∀{n:Nat} {vs:List VV} {ds:List (El c)},deVs c n vs=some ds→ds.length=n
 |0,vs,ds,h=>by simp[deVs]at h;subst h;rfl
 |n+1,vs,ds,h=>by
  simp only[deVs]at h;split at h<;>simp at h;rename_i d ds' h1 h2;subst h;simp[xJ4 h2]
def srcV(ty:Ty)(h:zQa)(e:TypeId)(j:TI)(x:VV)(c:C)(k:List (El c)→Option β):Option β:=
 if fitC j c=true then
  match x with
  | .sl c' ds _ _=>if hc:c'=c then k (hc▸ds)else none
  | .nsl=>k []
  | .sref b off len _ _ c'=>match h[b]? with
   |some (.vec c'' ds)=>if c'=c then(if hc:c''=c then(if Z.Le (Z.addN off len) (Z.len ds)then k (Z.seg (hc▸ds:List (El c)) off len)else none)else none)else none
   |some (.cells vs)=>if c'.cells=c.cells then(if off*c.cells+len*c.cells≤vs.length then(match deVs c len ((vs.drop (off*c.cells)).take (len*c.cells))with
    |some ds=>k ds
    |none=>none)else none)else none
   |_=>none
  | .mix b c' d=>match h[b]? with
   |some (.rows c'' dss)=>if hc':c'=c then(if hc:c''=c then(if Z.XOk (hc▸dss:List (List (El c))) (hc'▸d:MixE (El c))then Z.bnd (Z.xget (hc▸dss:List (List (El c))) (hc'▸d:MixE (El c))) fun x=>k x else none)else none)else none
   |_=>none
  | .str s=>match j.desc with
   | .int .u8=>if hc:C.int .u8=c then k (hc▸(Z.bytes s))else none
   |_=>none
  |_=>none
 else none
theorem vW1{j:TI}{b:Nat}{c:C}{dss:List (List (El c))}{d:MixE (El c)}(hb:h[b]?=some (.rows c dss))(hf:fitC j c=true)(hx:d.xok dss=true):srcE (hc h) j (VV.mix b c d).cv=some ((Z.xget dss d).map (valC c)):=by
 obtain⟨f1,f2,f3⟩:=zXv hf;cases d with
 |data l=>simp[VV.cv,valC,mixC,srcE,f2]
 |nil=>simp[VV.cv,valC,mixC,srcE]
 |ref k off n gen=>
  simp only[MixE.xok,Qc,decide_eq_true_eq,beq_iff_eq]at hx;obtain⟨h1,h2,h3⟩:=hx;simp only[VV.cv,valC,mixC,srcE,zJg hb h1 h2];generalize hrow:dss.getD k []=row at *
  have hlen:=zQp c row;have hle:off*c.cells+n*c.cells≤(vecC c row).length:=by rw[hlen,←Qz];exact Qn _ (by omega)
  have hseg:((vecC c row).drop (off*c.cells)).take (n*c.cells)=vecC c ((row.drop off).take n):=by rw[zWh,zWp]
  rw[Qf ⟨f2.symm,hle,by rw[hseg];exact zXc _ _⟩,hseg]
  have hl2:((row.drop off).take n).length=n:=by simp;omega
  have:=yQm hf ((row.drop off).take n);rw[hl2]at this;rw[this];show _=some (((((dss.getD k []).drop off).take n)).map (valC c));rw[hrow]
theorem zZ6{e:TypeId}{j:TI}{x:VV}{c:C}{k:List (El c)→Option β}(he:srcV ty h e j x c k=some r):∃ds,k ds=some r∧srcE (hc h) j x.cv=some (ds.map (valC c)):=by
 unfold srcV at he;split at he<;>(try (simp at he;done))
 rename_i hf;obtain⟨f1,f2,f3⟩:=zXv hf;split at he<;>(try (simp at he;done))
 ·rename_i c' ds tok full
  split at he<;>(try (simp at he;done))
  rename_i hcc;subst hcc;exact⟨ds,he,by simp[VV.cv,srcE,f2]⟩
 ·exact⟨[],he,by simp[VV.cv,srcE]⟩
 ·rename_i b off len cap ex c'
  split at he<;>(try (simp at he;done))
  ·rename_i c'' ds hb
   split at he<;>(try (simp at he;done))
   rename_i hcc;subst hcc;split at he<;>(try (simp at he;done))
   rename_i hcc;subst hcc;split at he<;>(try (simp at he;done))
   rename_i hl;replace hl:off+len≤ds.length:=hl;refine⟨_,he, ?_⟩;simp only[VV.cv,srcE,zWr hb];have hlen:=zQp c'' ds;have hle:off*c''.cells+len*c''.cells≤(vecC c'' ds).length:=by rw[hlen,←Qz];exact Qn _ hl
   have hseg:((vecC c'' ds).drop (off*c''.cells)).take (len*c''.cells)=vecC c'' ((ds.drop off).take len):=by rw[zWh,zWp]
   rw[Qf ⟨f2.symm,hle,by rw[hseg];exact zXc _ _⟩,hseg]
   have hl2:((ds.drop off).take len).length=len:=by simp;omega
   have:=yQm hf ((ds.drop off).take len);rw[hl2]at this;rw[this]
  ·rename_i vs hb
   split at he<;>(try (simp at he;done))
   rename_i hcond;split at he<;>(try (simp at he;done))
   rename_i hl;split at he<;>(try (simp at he;done))
   rename_i ds hds;refine⟨_,he, ?_⟩;have hlen:((vs.drop (off*c.cells)).take (len*c.cells)).length=len*c.cells:=by simp;omega
   have hcv:=xW1 hds hlen;simp only[VV.cv,srcE,zWm hb];rw[hcond,←J9,←J1,hcv];rw[Qf ⟨f2.symm,by simp;omega,zXc _ _⟩]
   have hn:ds.length=len:=xJ4 hds;have:=yQm hf ds;rw[hn]at this;rw[this]
 ·rename_i b c' d
  split at he<;>(try (simp at he;done))
  rename_i c'' dss hb;split at he<;>(try (simp at he;done))
  rename_i hcc;subst hcc;split at he<;>(try (simp at he;done))
  rename_i hcc;subst hcc;split at he<;>(try (simp at he;done))
  rename_i hx;exact⟨_,he,vW1 hb hf hx⟩
 ·rename_i s
  split at he<;>(try (simp at he;done))
  rename_i hd;split at he<;>(try (simp at he;done))
  rename_i hcc;subst hcc;refine⟨_,he, ?_⟩;simp[VV.cv,srcE,hd,J5,Wd,valC]
theorem yZg(c:C)(n:Nat):vecC c (List.replicate n (dfl c))=zWs n (valC c (dfl c)).flat:=by
 simp only[vecC,zWs];induction n with
 |zero=>rfl
 |succ n ih=>simp[Kl,ih]
noncomputable def yJq(ty:Ty)(n:Nat)(t:TypeId)(l c:VV)(K:VV→Option VObj→Option β):Option β:=
 match ty t,l,c with
 | some i, .int _ l, .int _ c=>match i.desc with
  | .slice e=>match ty e,cOf ty 8 e with
   | some j,some ce=>
    if CV.yZb (valC ce (dfl ce)).flat j.zero=true∧fitC j ce=true then
     (if Z.MkOk l c j.bytes then
      K (.sref n 0 (Z.toN l) (Z.toN c) true ce) (some (.vec ce (Z.rep (Z.toN c) (dfl ce))))
     else none)else none
   |_,_=>none
  |_=>none
 |_,_,_=>none
theorem xJe{n:Nat}{t:TypeId}{l c:VV}{K:VV→Option VObj→Option β}(he:yJq ty n t l c K=some r):∃v o,K v (some o)=some r∧zX7 ty n t l.cv c.cv=some (v.cv,o.ho):=by
 unfold yJq at he;split at he<;>(try (simp at he;done))
 rename_i i k1 l k2 c hi;split at he<;>(try (simp at he;done))
 rename_i e hd;split at he<;>(try (simp at he;done))
 rename_i j ce hj hce;split at he<;>(try (simp at he;done))
 rename_i hcond;obtain⟨hz,hf⟩:=hcond;obtain⟨f1,f2,f3⟩:=zXv hf;split at he<;>(try (simp at he;done))
 rename_i hn;refine⟨_,_,he, ?_⟩;simp only[zX7,VV.cv,hi,hd,hj];rw[Qf (Z.zYx.1 hn)];simp only[VObj.ho,yZg,CV.zX9 _ _ hz,f2,Nat.zero_mul]
def yWc (ty:Ty)(n:Nat)(t:TypeId)(len:Nat)(parts:List (Nat×VV))(K:VV→Option VObj→Option β):Option β:=
 match ty t with
 | some i=>match i.desc with
  | .slice e=>match ty e,cOf ty 8 e with
   | some j,some c=>
    if len*j.size≤2^24∧fitC j c=true then
     match zV (zWs len j.zero)with
     | some z=>match wZa (fun k=>some (k*j.size,j.size)) z parts with
      | some vs=>if vs.length=len*c.cells then match deVs c len vs with
        |some ds=>K (.sref n 0 len len true c) (some (.vec c ds))
        |none=>K (.sref n 0 len len true c) (some (.cells vs))
       else none
      |none=>none
     |none=>none
    else none
   |_,_=>none
  |_=>none
 |none=>none
theorem yZm{n len:Nat}{t:TypeId}{parts:List (Nat×VV)}{K:VV→Option VObj→Option β}(he:yWc ty n t len parts K=some r):
  ∃v o,K v (some o)=some r∧zX3 ty n t len (parts.map fun p=>(p.1,p.2.cv))=some (v.cv,o.ho):=by
 unfold yWc at he;split at he<;>(try (simp at he;done))
 rename_i i hi;split at he<;>(try (simp at he;done))
 rename_i e hd;split at he<;>(try (simp at he;done))
 rename_i j c hj hce;split at he<;>(try (simp at he;done))
 rename_i hcond;obtain⟨hl,hf⟩:=hcond;obtain⟨f1,f2,f3⟩:=zXv hf;split at he<;>(try (simp at he;done))
 rename_i z hz;split at he<;>(try (simp at he;done))
 rename_i vs hfill;split at he<;>(try (simp at he;done))
 rename_i hvl;have h1:=xQb hfill;rw[vZ9 hz]at h1;have key:zX3 ty n t len (parts.map fun p=>(p.1,p.2.cv))=some (.sref c.cells n 0 len len true, .cells (vs.map VV.cv)):=by
  unfold zX3;simp only[hi,hd,hj];rw[Qf hl,h1,f2]
 split at he
 ·rename_i ds hds
  refine⟨_,_,he, ?_⟩;rw[key,xW1 hds hvl];simp[VV.cv,VObj.ho]
 ·exact⟨_,_,he,by rw[key];simp[VV.cv,VObj.ho]⟩
def uXk(ty:Ty)(h:zQa)(n:Nat)(s t:TypeId)(x:VV)(K:VV→Option VObj→Option β):Option β:=
 match ty s,ty t with
 | some i,some i'=>
  match i'.desc,x with
  | .int k, .int _ a=>Z.bnd (Z.wrap k a) fun x=>K (.int k x) none
  | .string, .str b=>K (.str b) none
  | .slice e, .str b=>match ty e with
   |some j=>match j.desc with
    | .int .u8=>if marks=true then K (.sref n 0 (Z.len b) (Z.len b) false (.int .u8)) (some (.vec (.int .u8) (Z.bytes b)))else none
    |_=>none
   |none=>none
  | .slice e, .sref b off len cap ex c=>if s=t∧zKh h b=true then(match ty e with
   |some j=>match j.desc with
    | .int .u8=>if marks=true then K (.sref b off len cap ex c) none else none
    |_=>none
   |none=>none)else none
  | .string,_=>match i.desc with
   | .slice e=>match ty e with
    |some j=>match j.desc with
     | .int .u8=>srcV ty h e j x (.int .u8) fun ds=>Z.bnd (Z.str ds) fun x=>K (.str x) none
     |_=>none
    |none=>none
   |_=>none
  |_,_=>none
 |_,_=>none
theorem yYq:∀ds:List Int,bytesOf (ds.map (valC (.int .u8)))=some (ds.map fun n=>UInt8.ofNat n.toNat)
 |[]=>rfl
 |d::ds=>by
  have ih:=yYq ds;show bytesOf (.int .u8 d::ds.map (valC (.int .u8)))=_;simp only[bytesOf,ih];rfl
theorem vJ0{n:Nat}{s t:TypeId}{x:VV}{K:VV→Option VObj→Option β}(he:uXk ty h n s t x K=some r):∃v o,K v o=some r∧yWj ty (hc h) n s t x.cv=some (v.cv,o.map VObj.ho):=by
 obtain⟨y,hy⟩:∃y,y=x:=⟨x,rfl⟩;unfold uXk at he;split at he<;>(try (simp at he;done))
 rename_i i i' hi hi';split at he<;>(try (simp at he;done))
 ·rename_i hd;exact⟨_,_,he,by simp[yWj,hi,hi',hd,VV.cv]⟩
 ·rename_i hd;exact⟨_,_,he,by simp[yWj,hi,hi',hd,VV.cv]⟩
 ·rename_i e b hd
  split at he<;>(try (simp at he;done))
  rename_i j hj;split at he<;>(try (simp at he;done))
  rename_i hd2;simp[marks]at he
 ·rename_i e b off len cap ex c hd
  split at he<;>(try (simp at he;done))
  rename_i hcond;split at he<;>(try (simp at he;done))
  rename_i j hj;split at he<;>(try (simp at he;done))
  rename_i hd2;simp[marks]at he
 ·rename_i hd hns
  split at he<;>(try (simp at he;done))
  rename_i e hd1;split at he<;>(try (simp at he;done))
  rename_i j hj;split at he<;>(try (simp at he;done))
  rename_i hd2;obtain⟨ds,h1,h2⟩:=zZ6 he;refine⟨_,_,h1, ?_⟩;subst hy;have hb:=yYq ds;have hne:∀b,y.cv≠.str b:=by
   intro b hb;cases y<;>simp[VV.cv,zWt,valC]at hb
   ·rename_i sss;exact hns sss rfl
   ·rename_i d;cases d<;>simp[mixC]at hb
  simp only[yWj,hi,hi',hd];generalize y.cv=z at h2 hne;cases z<;>first|exact absurd rfl (hne _)|(simp only[hd1,hj,hd2,h2,hb];rfl)
end
end Go.Eng
/- Typed operations: parts of slices, comparisons, stores, append, copy. -/
namespace Go.Eng
set_option linter.unusedVariables false
section
variable {β:Type} {ty:Ty} {h:zQa} {K:VV→Option β} {r:β}
def vY0(x:VV)(y:Nat)(k:Nat→Option β):Option β:=
 match x with
 | .int _ n=>if Z.Bd n y then k (Z.toN n)else none
 |_=>none
def yW1(x:Option VV)(y d:Nat)(k:Nat→Option β):Option β:=
 match x with
 |some x=>vY0 x y k
 |none=>k d
def zYj(lo hi mx:Option VV)(y d:Nat)(k:Nat→Nat→Nat→Option β):Option β:=
 match mx,hi with
 |some _,none=>none
 |_,_=>yW1 mx y y fun m=>yW1 hi m d fun h=>yW1 lo h 0 fun l=>k l h m
theorem yW0{x:Option VV}{y d:Nat}{k:Nat→Option β}(he:yW1 x y d k=some r):∃n,k n=some r∧zXh (x.map VV.cv) y d=some n:=by
 unfold yW1 at he;split at he
 ·rename_i v
  unfold vY0 at he;split at he<;>(try (simp at he;done))
  split at he<;>(try (simp at he;done))
  rename_i hn;exact⟨_,he,by simp[zXh,yXl,VV.cv,hn]⟩
 ·exact⟨_,he,rfl⟩
theorem zZs{lo hi mx:Option VV}{y d:Nat}{k:Nat→Nat→Nat→Option β}(he:zYj lo hi mx y d k=some r):∃l hh m,k l hh m=some r∧zX4 (lo.map VV.cv) (hi.map VV.cv) (mx.map VV.cv) y d=some (l,hh,m):=by
 unfold zYj at he;split at he<;>(try (simp at he;done))
 rename_i hno;obtain⟨m,h1,e1⟩:=yW0 he;obtain⟨hh,h2,e2⟩:=yW0 h1;obtain⟨l,h3,e3⟩:=yW0 h2;refine⟨l,hh,m,h3, ?_⟩;unfold zX4;cases mx with
 |none=>simp only[Option.map_none]at e1⊢;cases hi<;>simp only[Option.map_none,Ju]at e2⊢<;>simp[e1,e2,e3]
 |some mv=>
  cases hi with
  |none=>exact absurd rfl (hno _ rfl)
  |some hv=>simp only[Ju]at e1 e2⊢;simp[e1,e2,e3]
def vQ8(ty:Ty)(h:zQa)(t:TypeId)(x:VV)(lo hi mx:Option VV)(K:VV→Option β):Option β:=
 match ty t with
 |none=>none
 | some i=>
  match i.desc,x with
  | .string, .str s=>if mx.isSome=true then none else
   zYj lo hi none (Z.len s) (Z.len s) fun l hh _=>Z.bnd (Z.slice s l hh) fun x=>K (.str x)
  | .slice e, .sl c ds tok full=>match ty e with
   |none=>none
   | some j=>if c.cells=j.size∧(tok=none∨(lo.isNone&&hi.isNone&&mx.isNone)=true)then
     zYj lo hi mx (Z.len ds) (Z.len ds) fun l hh m=>Z.bnd (Z.slice ds l hh) fun x=>K (.sl c x tok (if mx.isSome=true then false else if hi.isSome=true then full&&Z.eqN hh (Z.len ds)else full))
    else if c.cells=j.size then
     zYj lo hi mx (Z.len ds) (Z.len ds) fun l hh m=>
      if mx.isSome=true then Z.bnd (Z.slice ds l hh) fun x=>K (.sl c x none false)
      else if Z.EqN l 0 then(if Z.EqN hh (Z.len ds)then Z.bnd (Z.slice ds l hh) fun x=>K (.sl c x tok (full&&Z.eqN hh (Z.len ds)))else Z.bnd (Z.slice ds l hh) fun x=>K (.sl c x none (full&&Z.eqN hh (Z.len ds))))
      else Z.bnd (Z.slice ds l hh) fun x=>K (.sl c x none (full&&Z.eqN hh (Z.len ds)))
    else none
  | .slice e, .nsl=>match ty e,cOf ty 8 e with
   |some j,some c=>if c.cells=j.size then zYj lo hi mx 0 0 fun l hh m=>K (.sl c [] none mx.isNone)else none
   |_,_=>none
  | .slice e, .sref b off len cap ex c=>match ty e with
   |none=>none
   | some j=>if c.cells=j.size∧zKh h b=true then
     zYj lo hi mx cap len fun l hh m=>
      if Z.Lt l m then K (.sref b (Z.addN off l) (Z.subN hh l) (Z.subN m l) (mx.isSome||ex) c)else K (.sl c [] none (mx.isSome||ex))
    else none
  | .slice e, .mix b c d=>match ty e,h[b]? with
   | some j,some (.rows c' dss)=>if c.cells=j.size then(if hcc:c'=c then(if Z.XCut (hcc▸dss:List (List (El c))) d then
     zYj lo hi mx (Z.xlen d) (Z.xlen d) fun l hh m=>match lo.isNone&&mx.isSome with
      |true=>if Z.XW (hcc▸dss:List (List (El c))) d then(if Z.EqN m 0 then K (.sl c [] none true)else none)else none
      |false=>Z.bnd (Z.xcut d l hh) fun x=>K (.mix b c x)else none)else none)else none
   |_,_=>none
  | .array n e, .ptr b off=>match ty e,h[b]? with
   | some j,some (.vec c ds)=>if off=0∧c.cells=j.size then(if Z.Le n (Z.len ds)then
     zYj lo hi mx n n fun l hh m=>
      if Z.Lt l m then K (.sref b l (Z.subN hh l) (Z.subN m l) true c)else K (.sl c [] none true)
    else none)else none
   |some j,some (.cells vs)=>match cOf ty 8 e,lo,hi,mx with
    |some c,none,none,none=>if c.cells=1∧j.size=1∧off+n≤vs.length∧0<n then K (.sref b off n n true c)else none
    |_,_,_,_=>none
   |_,_=>none
  | .array n e, .rop (.av m' c ds)=>match ty e with
   | some j=>if m'=n∧fitC j c=true then(if Z.EqN (Z.len ds) n then
     zYj lo hi mx n n fun l hh m=>K (.sl c (Z.slice ds l hh) none (Z.eqN hh m))
    else none)else none
   |none=>none
  | .array n e, .rop (.agg vs)=>match ty e with
   | some j=>match cOf ty 8 e with
    | some (.int k)=>match wQ2 k vs with
     | some ds=>if vs.length=n∧fitC j (.int k)=true then
       zYj lo hi mx n n fun l hh m=>K (.sl (.int k) (Z.slice ds l hh) none (Z.eqN hh m))
      else none
     |none=>none
    |_=>none
   |none=>none
  |_,_=>none
theorem wZo{y d l hh m:Nat}(h:zX4 none none none y d=some (l,hh,m)):l=0∧hh=d∧m=y:=by
 simp[zX4,zXh]at h;omega
theorem vZn{lo mx:Option CV}{y d l hh m:Nat}(h:zX4 lo none mx y d=some (l,hh,m)):hh=d:=by
 cases mx with
 |some v=>simp[zX4]at h
 | none=>
  simp only[zX4,zXh]at h;cases lo with
  |none=>simp at h;exact h.2.1.symm
  |some v=>
   simp only at h;split at h<;>simp at h;exact h.2.1.symm
theorem wJd(k:IntKind):∀(ds:List Int),vecC (.int k) ds=ds.map (CV.int k)
 |[]=>rfl
 |d::ds=>by
  show(valC (.int k) d).flat++vecC (.int k) ds=_;rw[wJd k ds];rfl
theorem vQ7{t:TypeId}{x:VV}{lo hi mx:Option VV}(he:vQ8 ty h t x lo hi mx K=some r):∃v,K v=some r∧zXq ty (hc h) t x.cv (lo.map VV.cv) (hi.map VV.cv) (mx.map VV.cv)=some v.cv:=by
 unfold vQ8 at he;split at he<;>(try (simp at he;done))
 rename_i i hi';split at he<;>(try (simp at he;done))
 ·rename_i s hd
  split at he<;>(try (simp at he;done))
  rename_i hm;obtain⟨l,hh,m,h1,h2⟩:=zZs he;simp only[Option.map_none]at h2;refine⟨_,h1, ?_⟩;simp[zXq,hi',hd,VV.cv,hm,h2]
 ·rename_i e c ds tok full hd
  split at he<;>(try (simp at he;done))
  rename_i j hj;split at he<;>(try (simp at he;done))
  ·rename_i hcond
   obtain⟨hs,htok⟩:=hcond;obtain⟨l,hh,m,h1,h2⟩:=zZs he;refine⟨_,h1, ?_⟩;simp only[zXq,hi',hd,VV.cv,hj,Qh];rw[Qf (.inl hs),h2];simp only[←J1,←J9,hs];congr 1
   congr 1
   ·rcases htok with rfl|hnone
    ·split<;>rfl
    ·simp only[Qc,Option.isNone_iff_eq_none]at hnone
     obtain⟨⟨rfl,rfl⟩,rfl⟩:=hnone;obtain⟨rfl,rfl,rfl⟩:=wZo h2;simp
   ·cases mx with
    |some mv=>simp
    | none=>
     cases hi with
     |some hv=>simp
     |none=>
      have:=vZn h2;subst this;simp
  ·split at he<;>(try (simp at he;done))
   rename_i hs;obtain⟨l,hh,m,h1,h2⟩:=zZs he;have main:∀(t2:Option Nat) (f2:Bool),(if mx.isNone=true∧l=0∧hh=ds.length then tok else none)=t2→(if mx.isSome=true then false else full&&hh==ds.length)=f2→
     zXq ty (hc h) t (VV.sl c ds tok full).cv (lo.map VV.cv) (hi.map VV.cv) (mx.map VV.cv)=some (VV.sl c (Z.slice ds l hh) t2 f2).cv:=by
    intro t2 f2 e1 e2;subst e1;subst e2;simp only[zXq,hi',hd,VV.cv,hj,Qh];rw[Qf (.inl hs),h2];simp only[←J1,←J9,hs];congr 1;congr 1
    ·cases mx<;>simp
    ·cases mx<;>simp
   split at h1
   ·rename_i hmx
    refine⟨_,h1,main _ _ ?_ ?_⟩
    ·rw[Qi];rintro⟨h,_⟩;cases mx<;>simp at h hmx
    ·rw[Qf hmx]
   ·rename_i hmx
    split at h1
    ·rename_i hl
     split at h1
     ·rename_i hhl
      refine⟨_,h1,main _ _ ?_ ?_⟩
      ·rw[Qf];exact⟨by cases mx<;>simp at hmx⊢,hl,hhl⟩
      ·rw[Qi hmx]
     ·rename_i hhl
      refine⟨_,h1,main _ _ ?_ ?_⟩
      ·rw[Qi];rintro⟨_,_,h⟩;exact hhl h
      ·rw[Qi hmx]
    ·rename_i hl
     refine⟨_,h1,main _ _ ?_ ?_⟩
     ·rw[Qi];rintro⟨_,h,_⟩;exact hl h
     ·rw[Qi hmx]
 ·rename_i e hd
  split at he<;>(try (simp at he;done))
  rename_i j c hj hcc;split at he<;>(try (simp at he;done))
  rename_i hs;obtain⟨l,hh,m,h1,h2⟩:=zZs he;refine⟨_,h1, ?_⟩;have hz:l=0∧hh=0∧m=0:=by
   unfold zX4 at h2;split at h2<;>(try (simp at h2;done))
   have hb:∀(x:Option CV) (d n:Nat),zXh x 0 d=some n→d=0→n=0:=by
    intro x d n hx hd0;subst hd0;unfold zXh at hx;split at hx
    ·unfold yXl at hx
     split at hx<;>(try (simp at hx;done))
     split at hx<;>simp at hx;omega
    ·simpa using hx.symm
   cases e1:zXh (mx.map VV.cv) 0 0 with
   |none=>simp[e1]at h2
   | some m'=>
    have hm:=hb _ _ _ e1 rfl;subst hm;simp only[e1]at h2;cases e2:zXh (hi.map VV.cv) 0 0 with
    |none=>simp[e2]at h2
    | some h'=>
     have hh':=hb _ _ _ e2 rfl;subst hh';simp only[e2]at h2;cases e3:zXh (lo.map VV.cv) 0 0 with
     |none=>simp[e3]at h2
     |some l'=>
      have hl':=hb _ _ _ e3 rfl;subst hl';simp[e3]at h2;omega
  obtain⟨rfl,rfl,rfl⟩:=hz;simp only[zXq,hi',hd,VV.cv,hj];rw[Qf (.inr trivial)];simp only[Wa,h2,List.take_nil,List.drop_nil,Q8,←hs];congr 1;congr 1
  ·split<;>rfl
  ·cases mx<;>simp
 ·rename_i e b off len cap ex c hd
  split at he<;>(try (simp at he;done))
  rename_i j hj;split at he<;>(try (simp at he;done))
  rename_i hcond;obtain⟨l,hh,m,h1,h2⟩:=zZs he;split at h1
  ·rename_i hlm
   refine⟨_,h1, ?_⟩;simp only[zXq,hi',hd,VV.cv,hj];rw[Qf ⟨hcond.1,by rw[zWf];exact hcond.2⟩,h2]
   simp only[Option.isSome_map];rw[Qf hlm,Qz]
  ·rename_i hlm
   refine⟨_,h1, ?_⟩;simp only[zXq,hi',hd,VV.cv,hj];rw[Qf ⟨hcond.1,by rw[zWf];exact hcond.2⟩,h2]
   simp only[Option.isSome_map];rw[Qi hlm,hcond.1];rfl
 ·rename_i e b c d hd
  split at he<;>(try (simp at he;done))
  rename_i j c' dss hj hb;split at he<;>(try (simp at he;done))
  rename_i hs;split at he<;>(try (simp at he;done))
  rename_i hcc;subst hcc;split at he<;>(try (simp at he;done))
  rename_i hx;replace hx:d.xcut dss=true:=hx;obtain⟨l,hh,m,h1,h2⟩:=zZs he;cases hlm:lo.isNone&&mx.isSome with
  | true=>
   rw[hlm]at h1;simp only at h1;split at h1<;>(try (simp at h1;done))
   rename_i hw;split at h1<;>(try (simp at h1;done))
   rename_i hm0;refine⟨_,h1, ?_⟩;replace hm0:m=0:=hm0;subst hm0;rw[Qc]at hlm;cases d with
   |nil=>simp[Z.XW,MixE.xw]at hw
   |data xs=>simp[Z.XW,MixE.xw]at hw
   |ref k off n gen=>
    simp only[MixE.xcut,Qc,decide_eq_true_eq,beq_iff_eq]at hx;obtain⟨q1,q2⟩:=hx;simp only[zXq,hi',hd,VV.cv,valC,mixC,hj,zJg hb q1 q2];rw[Qf ⟨hs,rfl⟩];have h2':zX4 (lo.map VV.cv) (hi.map VV.cv) (mx.map VV.cv) n n=some (l,hh,0):=h2
    rw[h2'];simp only[Option.isNone_map,Option.isSome_map,hlm.1,hlm.2,and_self,if_true,hs,Q8]
  |false=>
  rw[hlm]at h1;simp only at h1;refine⟨_,h1, ?_⟩;cases d with
  |nil=>simp[MixE.xcut]at hx
  |data xs=>
   simp only[zXq,hi',hd,VV.cv,valC,mixC,hj,Qh];rw[Qf (.inl hs),h2];simp only[←J1,←J9,hs];congr 1;congr 1
   ·split<;>rfl
   ·split<;>simp
  | ref k off n gen=>
   simp only[MixE.xcut,Qc,decide_eq_true_eq,beq_iff_eq]at hx;obtain⟨q1,q2⟩:=hx;simp only[zXq,hi',hd,VV.cv,valC,mixC,hj,zJg hb q1 q2];rw[Qf ⟨hs,rfl⟩];have h2':zX4 (lo.map VV.cv) (hi.map VV.cv) (mx.map VV.cv) n n=some (l,hh,m):=h2
   rw[h2'];have hno:¬((lo.map VV.cv).isNone=true∧(mx.map VV.cv).isSome=true∧m=0):=by
    rintro⟨g1,g2,_⟩;rw[Option.isNone_map]at g1;rw[Option.isSome_map]at g2;rw[g1,g2]at hlm;cases hlm
   simp only[Qi hno,Qz]
 ·rename_i n e b off hd
  split at he<;>(try (simp at he;done))
  ·rename_i j c ds hj hb
   split at he<;>(try (simp at he;done))
   rename_i hcond;obtain⟨rfl,hs⟩:=hcond;split at he<;>(try (simp at he;done))
   rename_i hn;obtain⟨l,hh,m,h1,h2⟩:=zZs he;have hle:0+n*j.size≤(vecC c ds).length:=by rw[zQp,←hs,Jo];exact Qn _ hn
   split at h1
   ·rename_i hlm
    refine⟨_,h1, ?_⟩;simp only[zXq,hi',hd,VV.cv,hj,zWr hb];rw[Qf hle,h2];simp only;rw[Qf hlm,hs,Jo]
   ·rename_i hlm
    refine⟨_,h1, ?_⟩;simp only[zXq,hi',hd,VV.cv,hj,zWr hb];rw[Qf hle,h2];simp only;rw[Qi hlm,hs];rfl
  ·rename_i j vs hj hb
   split at he<;>(try (simp at he;done))
   rename_i c hcc;split at he<;>(try (simp at he;done))
   rename_i hcond;obtain⟨hc1,hj1,hle,hn⟩:=hcond;refine⟨_,he, ?_⟩;simp only[zXq,hi',hd,VV.cv,hj,zWm hb,Option.map_none];rw[Qf (by rw[hj1,Qh];omega)]
   simp only[zX4,zXh];rw[Qf hn,hc1,hj1];simp
 ·rename_i n e m' c ds hd
  split at he<;>(try (simp at he;done))
  rename_i j hj;split at he<;>(try (simp at he;done))
  rename_i hcond;obtain⟨rfl,hf⟩:=hcond;obtain⟨f1,f2,f3⟩:=zXv hf;split at he<;>(try (simp at he;done))
  rename_i hl;replace hl:ds.length=m':=hl;obtain⟨l,hh,m,h1,h2⟩:=zZs he;refine⟨_,h1, ?_⟩;have hcells:((List.range m').flatMap fun i=>(valC c (ds.getD i (dfl c))).flat)=vecC c ds:=by
   subst hl;have e:ds=(List.range ds.length).map fun i=>ds.getD i (dfl c):=by
    apply Jy;intro i;by_cases hi:i<ds.length<;>simp[hi,List.getD]
   unfold vecC
   conv=>rhs;rw[e]
   rw[Q6]
  simp only[zXq,hi',hd,VV.cv,hj,valC];rw[hcells,Qf ⟨by rw[zQp,hl,f2];exact Qe _,zXc _ _⟩,h2]
  have:=yQm hf ds;rw[hl]at this;rw[f2]at this⊢;simp only[this,←J1,←J9]
 ·rename_i n e vs hd
  split at he<;>(try (simp at he;done))
  rename_i j hj;split at he<;>(try (simp at he;done))
  rename_i k hcO;split at he<;>(try (simp at he;done))
  rename_i ds hds;split at he<;>(try (simp at he;done))
  rename_i hcond;obtain⟨hn,hf⟩:=hcond;obtain⟨f1,f2,f3⟩:=zXv hf;obtain⟨g1,g2⟩:=xJn hds;have hl:ds.length=n:=by omega
  obtain⟨l,hh,m,h1,h2⟩:=zZs he;refine⟨_,h1, ?_⟩;have hcells:vs.map VV.cv=vecC (.int k) ds:=by rw[g2,wJd]
  simp only[zXq,hi',hd,VV.cv,VV.zQx,hj];rw[hcells,Qf ⟨by rw[zQp,hl,f2];exact Qe _,zXc _ _⟩,h2]
  have:=yQm hf ds;rw[hl]at this;rw[f2]at this⊢;simp only[this,←J1,←J9]
def eqVs:List VV→List VV→Option Bool
 |[],[]=>some true
 | .int k a::xs, .int k' b::ys=>if k=k' then(eqVs xs ys).map fun r=>a==b&&r else none
 | .bool a::xs, .bool b::ys=>(eqVs xs ys).map fun r=>a==b&&r
 |_,_=>none
def yQl(ty:Ty)(eq:TypeId→VV→VV→Option Bool):List Field→List VV→List VV→Option Bool
 |[],_,_=>some true
 | f::fs,xs,ys=>
  if f.name ≠ "_" then
   match ty f.type with
   |none=>none
   | some j=>
    match yJk j xs f.offset some,yJk j ys f.offset some with
    |some a,some b=>match eq f.type a b,yQl ty eq fs xs ys with
     |some p,some q=>some (Z.andB p q)
     |_,_=>none
    |_,_=>none
  else yQl ty eq fs xs ys
def yK1(ty:Ty)(eq:TypeId→VV→VV→Option Bool)(e:TypeId):Nat→Nat→List VV→List VV→Option Bool
 |0,_,_,_=>some true
 | n+1,i,xs,ys=>
  match ty e with
  |none=>none
  | some j=>
   match yJk j xs (i*j.size) some,yJk j ys (i*j.size) some with
   |some a,some b=>match eq e a b,yK1 ty eq e n (i+1) xs ys with
    |some p,some q=>some (Z.andB p q)
    |_,_=>none
   |_,_=>none
def eqVV(ty:Ty):Nat→TypeId→VV→VV→Option Bool
 |0,_,_,_=>none
 | d+1,t,x,y=>
  match ty t with
  |none=>none
  | some i=>
   match i.desc,x,y with
   | .bool, .bool a, .bool b=>some (Z.beq a b)
   | .int _, .int k a, .int k' b=>if k=k' then some (Z.ieq a b)else none
   | .string, .str a, .str b=>some (Z.seq a b)
   | .struct fs, .agg xs, .agg ys=>if i.held then none else yQl ty (eqVV ty d) fs.toList xs ys
   | .array len e, .agg xs, .agg ys=>match ty e with
    |none=>none
    |some _=>yK1 ty (eqVV ty d) e len 0 xs ys
   |_,_,_=>none
theorem yXg{ty:Ty}{eq:TypeId→VV→VV→Option Bool}{eq':TypeId→CV→CV→Option Bool}(ih:∀t x y b,eq t x y=some b→eq' t x.cv y.cv=some b):∀{fs:List Field} {xs ys:List VV} {b:Bool},yQl ty eq fs xs ys=some b→eqFields ty eq' fs (xs.map VV.cv) (ys.map VV.cv)=some b
 |[],xs,ys,b,h=>by simpa[yQl,eqFields]using h
 | f::fs,xs,ys,b,h=>by
  simp only[yQl]at h;simp only[eqFields];split at h
  ·rename_i hn
   rw[Qf hn];split at h<;>(try (simp at h;done))
   rename_i j hj;split at h<;>(try (simp at h;done))
   rename_i a b' ha hb;obtain⟨a',e1,h1⟩:=zKo ha;obtain⟨b'',e2,h2⟩:=zKo hb;simp at e1 e2;subst e1;subst e2;split at h<;>(try (simp at h;done))
   rename_i p q hp hq;simp only[hj,h1,h2,ih _ _ _ _ hp];have hr:=yXg ih hq;cases p with
   |true=>simp[Z.andB]at h;subst h;exact hr
   |false=>simpa[Z.andB]using h
  ·rename_i hn
   rw[Qi hn];exact yXg ih h
theorem xWz{ty:Ty}{eq:TypeId→VV→VV→Option Bool}{eq':TypeId→CV→CV→Option Bool}(ih:∀t x y b,eq t x y=some b→eq' t x.cv y.cv=some b){e:TypeId}:∀{n i:Nat} {xs ys:List VV} {b:Bool},yK1 ty eq e n i xs ys=some b→zYg ty eq' e n i (xs.map VV.cv) (ys.map VV.cv)=some b
 |0,i,xs,ys,b,h=>by simpa[yK1,zYg]using h
 |n+1,i,xs,ys,b,h=>by
  simp only[yK1]at h;simp only[zYg];split at h<;>(try (simp at h;done))
  rename_i j hj;split at h<;>(try (simp at h;done))
  rename_i a b' ha hb;obtain⟨a',e1,h1⟩:=zKo ha;obtain⟨b'',e2,h2⟩:=zKo hb;simp at e1 e2;subst e1;subst e2;split at h<;>(try (simp at h;done))
  rename_i p q hp hq;simp only[hj,h1,h2,ih _ _ _ _ hp];have hr:=xWz ih hq;cases p with
  |true=>simp[Z.andB]at h;subst h;exact hr
  |false=>simpa[Z.andB]using h
theorem wZd{ty:Ty}:∀(d:Nat) (t:TypeId) (x y:VV) (b:Bool),eqVV ty d t x y=some b→eqV ty d t x.cv y.cv=some b
 |0,_,_,_,_,h=>by simp[eqVV]at h
 | d+1,t,x,y,b,h=>by
  simp only[eqVV]at h;split at h<;>(try (simp at h;done))
  rename_i i hi;simp only[eqV,hi];split at h<;>(try (simp at h;done))
  ·rename_i hd;simpa[hd,VV.cv,Z.beq]using h
  ·rename_i hd
   split at h<;>(try (simp at h;done))
   rename_i hk;simpa[hd,VV.cv,hk,Z.ieq]using h
  ·rename_i hd;simpa[hd,VV.cv,Z.seq]using h
  ·rename_i fs xs ys hd
   split at h<;>(try (simp at h;done))
   rename_i hh;simp only[hd,VV.cv,VV.zQx,hh];exact yXg (wZd d) h
  ·rename_i len e xs ys hd
   split at h<;>(try (simp at h;done))
   rename_i j hj;simp only[hd,VV.cv,VV.zQx,hj];exact xWz (wZd d) h
def intsOf:(c:C)→List (El c)→Option (IntKind×List Int)
 | .int k,ds=>some (k,ds)
 |_,_=>none
theorem xWq{c:C}{ds:List (El c)}{k:IntKind}{ns:List Int}(h:intsOf c ds=some (k,ns))(n:Nat):valC (.arr n c) ds=.agg ((List.range n).map fun i=>.int k (ns.getD i 0)):=by
 unfold intsOf at h;split at h<;>simp at h;obtain⟨rfl,rfl⟩:=h;simp only[valC];congr 1;generalize List.range n=l;induction l with
 |nil=>rfl
 |cons i l ih=>rw[Qo,ih];rfl
def xQg:VV→Option (List VV)
 | .agg vs=>some vs
 | .av n c ds=>match intsOf c ds with
  |some (k,ns)=>some ((List.range n).map fun i=>.int k (Z.get ns i 0))
  |none=>none
 |_=>none
theorem xW6{v:VV}{vs:List VV}(h:xQg v=some vs):v.cv=.agg (vs.map VV.cv):=by
 unfold xQg at h;split at h
 ·simp at h;subst h;simp[VV.cv,VV.zQx]
 ·split at h<;>simp at h
  rename_i n c ds k ns hi;subst h;simp only[VV.cv,xWq hi,J5];rfl
 ·simp at h
def vZp:VV→VV→Option (Nat×List Int×List Int)
 | .av n c ds, .av n' c' ds'=>match intsOf c ds,intsOf c' ds' with
  |some (k,ns),some (k',ns')=>if n=n'∧k=k' then some (n,ns,ns')else none
  |_,_=>none
 |_,_=>none
theorem vZo{a b:VV}{n:Nat}{ns ns':List Int}(h:vZp a b=some (n,ns,ns')):∃k,a.cv=.agg ((List.range n).map fun i=>.int k (ns.getD i 0))∧b.cv=.agg ((List.range n).map fun i=>.int k (ns'.getD i 0)):=by
 unfold vZp at h;split at h<;>(try (simp at h;done))
 split at h<;>(try (simp at h;done))
 rename_i k ns0 k' ns1 h1 h2;split at h<;>simp at h;rename_i hh;obtain⟨rfl,rfl⟩:=hh;obtain⟨rfl,rfl,rfl⟩:=h;exact⟨k,xWq h1 _,xWq h2 _⟩
def vXg(ty:Ty)(t:TypeId)(n:Nat):Bool:=
 match ty t with
 | some i=>match i.desc with
  | .array len e=>match ty e with
   |some j=>match j.desc with
    | .int _=>len==n&&j.size==1&&!j.agg&&!i.eqg
    |_=>false
   |none=>false
  |_=>false
 |none=>false
theorem vXf{ty:Ty}{t:TypeId}{n:Nat}(h:vXg ty t n=true)(k:IntKind)(ns ns':List Int):∃i,ty t=some i∧i.eqg=false∧eqV ty 40 t (.agg ((List.range n).map fun i=>.int k (ns.getD i 0))) (.agg ((List.range n).map fun i=>.int k (ns'.getD i 0)))=some (Z.lq n ns ns'):=by
 unfold vXg at h;split at h<;>(try (simp at h;done))
 rename_i i hi;split at h<;>(try (simp at h;done))
 rename_i len e hd;split at h<;>(try (simp at h;done))
 rename_i j hj;split at h<;>(try (simp at h;done))
 rename_i kk hjd;simp only[Qc,beq_iff_eq,J3]at h;obtain⟨⟨⟨rfl,hs⟩,ha⟩,hg⟩:=h;refine⟨i,hi,hg, ?_⟩;have key:∀(m a:Nat),a+m=len→zYg ty (eqV ty 39) e m a ((List.range len).map fun i=>.int k (ns.getD i 0)) ((List.range len).map fun i=>.int k (ns'.getD i 0))=some ((List.range' a m).all fun i=>ns.getD i 0==ns'.getD i 0):=by
  intro m;induction m with
  |zero=>intro a _;simp[zYg]
  | succ m ih=>
   intro a hl;have p1:∀l:List Int,zZ8 j ((List.range len).map fun i=>CV.int k (l.getD i 0)) (a*j.size)=some (.int k (l.getD a 0)):=by
    intro l;have hlt:a<len:=by omega
    simp[zZ8,ha,hs,hlt,CV.one]
   have q1:∀x y:Int,eqV ty 39 e (.int k x) (.int k y)=some (x==y):=by
    intro x y;unfold eqV;simp only[hj,hjd,if_true]
   simp only[zYg,hj,p1,q1];rw[List.range'_succ,J7];cases hb:(ns.getD a 0==ns'.getD a 0)with
   |true=>simpa using ih (a+1) (by omega)
   |false=>simp
 have k0:=key len 0 (by omega)
 rw[←List.range_eq_range']at k0;refine Eq.trans ?_ k0;unfold eqV;simp only[hi,hd,hj]
def eqKV(op:BinOp)(b:Bool)(K:VV→Option β):Option β:=
 match op with
 | .eql=>K (.bool b)
 | .neq=>K (.bool (Z.bnot b))
 |_=>none
def binV(ty:Ty)(op:BinOp)(t:TypeId)(a b:VV)(K:VV→Option β):Option β:=
 match a,b with
 | .int k x, .int k' y=>
  match op with
  | .shl=>wKi .shl k x y K
  | .shr=>wKi .shr k x y K
  |op=>if k=k' then intV op k x y K else none
 | .str x, .str y=>strV op x y K
 | .bool x, .bool y=>match ty t with
  |some i=>match i.desc,op with
   | .bool, .eql=>K (.bool (Z.beq x y))
   | .bool, .neq=>K (.bool (Z.bnot (Z.beq x y)))
   |_,_=>none
  |none=>none
 | a,b=>match vZp a b with
  |some (n,ns,ns')=>if vXg ty t n=true then eqKV op (Z.lq n ns ns') K else none
  | none=>match xQg a,xQg b with
   | some xs,some ys=>match ty t with
    |some i=>if i.eqg=true then none else match eqVV ty 40 t (.agg xs) (.agg ys)with
     |some r=>eqKV op r K
     |none=>none
    |none=>none
   |_,_=>none
theorem vXw{op:BinOp}{b:Bool}(he:eqKV op b K=some r){t:TypeId}{cst yn:Bool}{xs ys:List CV}(hq:eqC ty (hc h) t cst yn (.agg xs) (.agg ys)=some b):∃v,K v=some r∧binC ty (hc h) op t cst yn (.agg xs) (.agg ys)=some v.cv:=by
 unfold eqKV at he;split at he<;>(try (simp at he;done))
 ·exact⟨_,he,by simp only[binC,hq];rfl⟩
 ·exact⟨_,he,by simp only[binC,hq];rfl⟩
theorem uXw{op:BinOp}{t:TypeId}{cst yn:Bool}{a b:VV}(he:binV ty op t a b K=some r):∃v,K v=some r∧binC ty (hc h) op t cst yn a.cv b.cv=some v.cv:=by
 unfold binV at he;split at he<;>(try (simp at he;done))
 ·split at he
  ·obtain⟨v,h1,h2⟩:=xYy he;exact⟨v,h1,by simpa[binC,VV.cv]using h2⟩
  ·obtain⟨v,h1,h2⟩:=xYy he;exact⟨v,h1,by simpa[binC,VV.cv]using h2⟩
  ·rename_i hn1 hn2
   split at he<;>(try (simp at he;done))
   rename_i hk;obtain⟨v,h1,h2⟩:=uW0 he;refine⟨v,h1, ?_⟩;simp only[binC,VV.cv];cases op<;>first|exact(hn1 rfl).elim|exact(hn2 rfl).elim|(rw[Qf hk];exact h2)
 ·obtain⟨v,h1,h2⟩:=uQh he;exact⟨v,h1,by simpa[binC,VV.cv]using h2⟩
 ·split at he<;>(try (simp at he;done))
  rename_i i hi;split at he<;>(try (simp at he;done))
  ·rename_i hd;exact⟨_,he,by simp[binC,VV.cv,eqC,hi,hd,eqV]⟩
  ·rename_i hd;exact⟨_,he,by simp[binC,VV.cv,eqC,hi,hd,eqV]⟩
 ·split at he
  ·rename_i n ns ns' hb
   split at he<;>(try (simp at he;done))
   rename_i hr;obtain⟨k,e1,e2⟩:=vZo hb;obtain⟨i,hi,hg,hq⟩:=vXf hr k ns ns';rw[e1,e2];exact vXw he (by simp only[eqC,hi,hg];exact hq)
  ·split at he<;>(try (simp at he;done))
   rename_i xs ys hx hy;split at he<;>(try (simp at he;done))
   rename_i i hi;split at he<;>(try (simp at he;done))
   rename_i hg;split at he<;>(try (simp at he;done))
   rename_i b hb;rw[xW6 hx,xW6 hy];have:=wZd 40 t _ _ _ hb;simp only[VV.cv,VV.zQx]at this;exact vXw he (by simp only[eqC,hi,hg];exact this)
def nilV(ty:Ty)(h:zQa)(op:BinOp)(t:TypeId)(a:VV)(K:VV→Option β):Option β:=
 match ty t with
 | some i=>match i.desc,op with
  | .slice _, .eql=>match a with
   | .sl c ds _ _=>if Z.EqN (Z.len ds) 0 then none else K (.bool false)
   | .sref b _ _ _ _ _=>if zKh h b=true then K (.bool false)else none
   | .mix b c d=>match h[b]? with
    |some (.rows c' dss)=>if hcc:c'=c then(if Z.XPt (hcc▸dss:List (List (El c))) d 0 then K (.bool false)else none)else none
    |_=>none
   |_=>none
  | .slice _, .neq=>match a with
   | .sl c ds _ _=>if Z.EqN (Z.len ds) 0 then none else K (.bool true)
   | .sref b _ _ _ _ _=>if zKh h b=true then K (.bool true)else none
   |_=>none
  |_,_=>none
 |none=>none
theorem uWp{op:BinOp}{t:TypeId}{cst:Bool}{a:VV}(he:nilV ty h op t a K=some r):∃v,K v=some r∧binC ty (hc h) op t cst true a.cv (.slice 0 [] none true)=some v.cv:=by
 have key:∀(i:TI) (e:TypeId),ty t=some i→i.desc=.slice e→(∀c ds tok full,a=.sl c ds tok full→¬Z.EqN (Z.len ds) 0→eqC ty (hc h) t cst true a.cv (.slice 0 [] none true)=some false)∧(∀b off len cap ex c,a=.sref b off len cap ex c→zKh h b=true→eqC ty (hc h) t cst true a.cv (.slice 0 [] none true)=some false):=by
  intro i e hi hd;refine⟨fun c ds tok full ha hn=>?_,fun b off len cap ex c ha hl=>?_⟩
  ·subst ha
   cases ds with
   |nil=>exact absurd rfl hn
   |cons d ds=>simp[eqC,hi,VV.cv,yXi,hd]
  ·subst ha
   have hl':live (hc h) b=true:=by rw[zWf];exact hl
   simp[eqC,hi,VV.cv,yXi,hd,hl']
 have fin:∀(op:BinOp) (b:Bool),(∃c ds tok full,a=.sl c ds tok full)∨(∃b off len cap ex c,a=.sref b off len cap ex c)→eqC ty (hc h) t cst true a.cv (.slice 0 [] none true)=some false→(op=.eql∧b=false∨op=.neq∧b=true)→binC ty (hc h) op t cst true a.cv (.slice 0 [] none true)=some (VV.bool b).cv:=by
  intro op b ha hq hop;rcases ha with⟨c,ds,tok,full,rfl⟩|⟨b,off,len,cap,ex,c,rfl⟩<;>rcases hop with⟨rfl,rfl⟩|⟨rfl,rfl⟩<;>(simp only[VV.cv]at hq⊢;simp only[binC,hq];rfl)
 unfold nilV at he;split at he<;>(try (simp at he;done))
 rename_i i hi;split at he<;>(try (simp at he;done))
 ·rename_i e hd
  split at he<;>(try (simp at he;done))
  ·split at he<;>(try (simp at he;done))
   rename_i hn;exact⟨_,he,fin _ _ (.inl ⟨_,_,_,_,rfl⟩) ((key i e hi hd).1 _ _ _ _ rfl hn) (.inl ⟨rfl,rfl⟩)⟩
  ·split at he<;>(try (simp at he;done))
   rename_i hl;exact⟨_,he,fin _ _ (.inr ⟨_,_,_,_,_,_,rfl⟩) ((key i e hi hd).2 _ _ _ _ _ _ rfl hl) (.inl ⟨rfl,rfl⟩)⟩
  ·rename_i b c d
   split at he<;>(try (simp at he;done))
   rename_i c' dss hb;split at he<;>(try (simp at he;done))
   rename_i hcc;subst hcc;split at he<;>(try (simp at he;done))
   rename_i hx;obtain⟨k,off,n,gen,rfl,h1,h2,h3,h4⟩:=yK8 hx;replace h1:k<dss.length:=h1;replace h2:gen=(dss.getD k []).length:=h2;refine⟨_,he, ?_⟩;have hq:eqC ty (hc h) t cst true (VV.mix b c' (.ref k off n gen)).cv (.slice 0 [] none true)=some false:=by
    simp[eqC,hi,VV.cv,valC,mixC,yXi,hd,zJg hb h1 h2,h4]
   simp only[VV.cv,valC,mixC]at hq⊢;simp only[binC,hq];rfl
 ·rename_i e hd
  split at he<;>(try (simp at he;done))
  ·split at he<;>(try (simp at he;done))
   rename_i hn;exact⟨_,he,fin _ _ (.inl ⟨_,_,_,_,rfl⟩) ((key i e hi hd).1 _ _ _ _ rfl hn) (.inr ⟨rfl,rfl⟩)⟩
  ·split at he<;>(try (simp at he;done))
   rename_i hl;exact⟨_,he,fin _ _ (.inr ⟨_,_,_,_,_,_,rfl⟩) ((key i e hi hd).2 _ _ _ _ _ _ rfl hl) (.inr ⟨rfl,rfl⟩)⟩
def maxV(gt:Bool):VV→List VV→Option VV
 | .int k a,[]=>some (.int k a)
 | .int k a, .int _ b::rest=>maxV gt (.int k (Z.imax gt a b)) rest
 |_,_=>none
theorem vW4{gt:Bool}:∀{xs:List VV} {a v:VV},maxV gt a xs=some v→maxC gt a.cv (xs.map VV.cv)=some v.cv
 |[],a,v,h=>by
  cases a<;>simp[maxV]at h;subst h;rfl
 |x::xs,a,v,h=>by
  cases a<;>cases x<;>simp only[maxV]at h<;>(try (simp at h;done))
  simp only[Qg,VV.cv,maxC];exact vW4 h
def tkV:VV→VV
 | .sl c ds (some _) _=>.sl c ds none false
 |v=>v
theorem tkV_cv(v:VV):(tkV v).cv=tkC v.cv:=by
 cases v with
 |sl c ds tok full=>cases tok<;>rfl
 |mix b c d=>cases d<;>rfl
 |_=>rfl
theorem xKi(v:VV):v.cv.flat.map tkC=(v.flat.map tkV).map VV.cv:=by
 rw[VV.zYe,J5,J5];exact J4 fun x _=>(tkV_cv x).symm
def yWm(ty:Ty)(h:zQa)(t:TypeId)(x v:VV)(K:zQa→Option β):Option β:=
 match ty t with
 | some j=>match x with
  | .ptr b off=>match h[b]? with
   |some (.cells vs)=>
    if v.flat.length=j.size∧off+j.size≤vs.length∧v.flat.all VV.one=true then K (h.set b (.cells (zQd vs off v.flat)))else none
   | some (.vec c ds)=>match v with
    | .av n c' ds'=>if off=0∧c'.cells*n=j.size then(if hcc:c'=c then(if Z.EqN (Z.len ds) n then K (h.set b (.vec c (Z.norm n (hcc▸ds':List (El c)) (dfl c))))else none)else none)else none
    | .agg vs=>if off=0∧vs.length=j.size∧vs.length/c.cells*c.cells=vs.length then(match deVs c (vs.length/c.cells) vs with
     |some ds'=>if Z.EqN (Z.len ds) (Z.len ds')then K (h.set b (.vec c ds'))else none
     |none=>none)else none
    |_=>none
   |_=>none
  | .ptrE b i c=>match h[b]? with
   | some (.vec c' ds)=>if c'=c∧c'.cells=j.size then match deV c' v.flat with
     |some d=>if Z.Lt i (Z.len ds)then Z.bnd (Z.set ds i d) fun x=>K (h.set b (.vec c' x))else none
     |none=>none
    else none
   |_=>none
  | .ptrF b i c o=>match h[b]? with
   | some (.vec c' ds)=>if c'=c∧v.flat.length=j.size∧o+j.size≤c'.cells then(if Z.Lt i (Z.len ds)then Z.bnd (Z.get ds i (dfl c')) fun x=>match deV c' (zQd (zJs c' x) o v.flat)with
     |some d=>Z.bnd (Z.set ds i d) fun x=>K (h.set b (.vec c' x))
     |none=>none
    else none)else none
   |_=>none
  | .xptr b c d i o=>match h[b]? with
   | some (.rows c' dss)=>if hcc:c'=c then(if Z.XPt (hcc▸dss:List (List (El c))) d i then
     (if o=0∧c.cells=j.size then(match deV c (v.flat.map tkV)with
      |some x=>Z.bnd (Z.xset (hcc▸dss:List (List (El c))) d i x) fun m=>K (h.set b (.rows c m))
      |none=>none)
     else if v.flat.length=j.size∧o+j.size≤c.cells then Z.bnd (Z.xat (hcc▸dss:List (List (El c))) d i (dfl c)) fun y=>(match deV c (zQd (zJs c y) o (v.flat.map tkV))with
      |some x=>Z.bnd (Z.xset (hcc▸dss:List (List (El c))) d i x) fun m=>K (h.set b (.rows c m))
      |none=>none)
     else none)else none)else none
   |_=>none
  | .rop _=>Z.zZ7 7777784 [] [] []
  |_=>none
 |none=>none
theorem xKc{c:C}{ds:List (El c)}{i:Nat}{d:El c}(hi:i<ds.length):vecC c (ds.set i d)=zQd (vecC c ds) (i*c.cells) (valC c d).flat:=by
 have e1:ds.set i d=ds.take i++d::ds.drop (i+1):=by rw[List.set_eq_take_append_cons_drop,Qf hi]
 rw[e1,yQu];unfold zQd;rw[zWp,zQt,←Kg,zWh,Jn];rfl
theorem xYn{c:C}{ds:List (El c)}{i o:Nat}{d:El c}{news:List CV}(hi:i<ds.length)(ho:o+news.length≤c.cells)(hd:(valC c d).flat=zQd (valC c (ds.getD i (dfl c))).flat o news):
  vecC c (ds.set i d)=zQd (vecC c ds) (i*c.cells+o) news:=by
 have hl:=zQp c ds;have hle:i*c.cells+c.cells≤(vecC c ds).length:=by rw[hl,←Kg];exact Qn _ hi
 have e1:ds.getD i (dfl c)=ds[i]:=by simp[List.getD,hi]
 have hdr:(vecC c ds).drop (i*c.cells)=(valC c ds[i]).flat++vecC c (ds.drop (i+1)):=by
  rw[zWh,Jl hi];rfl
 have hvl:=zQt c ds[i];rw[xKc hi,hd,e1];apply Jy;intro k;have hs1:(zQd (valC c ds[i]).flat o news).length=c.cells:=by rw[zWa _ _ _ (by rw[hvl];exact ho),hvl]
 have g1:=zWl (vecC c ds) (i*c.cells) (zQd (valC c ds[i]).flat o news) (by rw[hs1];exact hle) k
 have g2:=zWl (vecC c ds) (i*c.cells+o) news (by omega) k
 have g3:=zWl (valC c ds[i]).flat o news (by rw[hvl];exact ho) (k-i*c.cells)
 rw[g1,g2,hs1];have hin:∀q,q<c.cells→(vecC c ds)[i*c.cells+q]?=(valC c ds[i]).flat[q]?:=by
  intro q hq;have:(vecC c ds)[i*c.cells+q]?=((vecC c ds).drop (i*c.cells))[q]?:=by rw[Jr]
  rw[this,hdr,Qb (by rw[hvl];exact hq)]
 by_cases c1:k<i*c.cells
 ·rw[Qf c1,Qf (by omega)]
 ·rw[Qi c1]
  by_cases c2:k<i*c.cells+c.cells
  ·rw[Qf c2,g3]
   have hk:=hin (k-i*c.cells) (by omega)
   rw[show i*c.cells+(k-i*c.cells)=k by omega]at hk
   by_cases c3:k-i*c.cells<o
   ·rw[Qf c3,Qf (show k<i*c.cells+o by omega)];exact hk.symm
   ·by_cases c4:k-i*c.cells<o+news.length
    ·rw[Qi c3,Qf c4,Qi (show¬k<i*c.cells+o by omega),Qf (show k<i*c.cells+o+news.length by omega)];congr 1;omega
    ·rw[Qi c3,Qi c4,Qi (show¬k<i*c.cells+o by omega),Qi (show¬k<i*c.cells+o+news.length by omega)];exact hk.symm
  ·rw[Qi c2,Qi (by omega),Qi (by omega)]
theorem vQk{t:TypeId}{x v:VV}{K:zQa→Option β}(he:yWm ty h t x v K=some r):∃h',K h'=some r∧zJd ty (hc h) t x.cv v.cv=some (hc h'):=by
 unfold yWm at he;split at he<;>(try (simp at he;done))
 rename_i j hj;split at he<;>(try (simp at he;done))
 ·rename_i b off
  split at he<;>(try (simp at he;done))
  ·rename_i vs hb
   split at he<;>(try (simp at he;done))
   rename_i hcond;refine⟨_,he, ?_⟩;simp only[zJd,hj,VV.cv,zWm hb,VV.zYe,Qh,xZ6];rw[Qf hcond,zQy];simp[VObj.ho,yXq]
  ·rename_i c ds hb
   split at he<;>(try (simp at he;done))
   ·rename_i n c' ds'
    split at he<;>(try (simp at he;done))
    rename_i hcond;obtain⟨rfl,hs⟩:=hcond;split at he<;>(try (simp at he;done))
    rename_i hcc;subst hcc;split at he<;>(try (simp at he;done))
    rename_i hl;replace hl:ds.length=n:=hl;refine⟨_,he, ?_⟩;have hfl:(VV.av n c' ds').cv.flat=vecC c' ((List.range n).map fun i=>ds'.getD i (dfl c')):=by simp[VV.cv,valC,flat_agg,vecC,Q6]
    have hlen:(vecC c' ((List.range n).map fun i=>ds'.getD i (dfl c'))).length=j.size:=by rw[zQp];simp;rw[←hs,Nat.mul_comm]
    simp only[zJd,hj];show(match(hc h)[b]? with
     |some (.cells cs)=>_
     |_=>none)=_
    rw[zWr hb];simp only[hfl];rw[Qf ⟨hlen,by rw[zQp,hl,←hs,Nat.mul_comm];omega,zXc _ _⟩,zQy]
    congr 2;simp only[VObj.ho,zQd,List.take_zero,K2,Jo];rw[hlen,Ws (by rw[zQp,hl,←hs,Nat.mul_comm];exact Qe _),Jq]
   ·rename_i vs
    split at he<;>(try (simp at he;done))
    rename_i hcond;obtain⟨rfl,hs,hm⟩:=hcond;split at he<;>(try (simp at he;done))
    rename_i ds' hds;split at he<;>(try (simp at he;done))
    rename_i hl;replace hl:ds.length=ds'.length:=hl;refine⟨_,he, ?_⟩;have hcv:=xW1 hds hm.symm;have hfl:(VV.agg vs).cv.flat=vecC c ds':=by simp only[VV.cv,VV.zQx,flat_agg];exact hcv
    have hlen:(vecC c ds').length=j.size:=by rw[←hcv,Qh,hs]
    have hlen2:(vecC c ds).length=j.size:=by rw[←hlen,zQp,zQp,hl]
    simp only[zJd,hj];show(match(hc h)[b]? with
     |some (.cells cs)=>_
     |_=>none)=_
    rw[zWr hb];simp only[hfl];rw[Qf ⟨hlen,by rw[hlen2];omega,zXc _ _⟩,zQy]
    congr 2;simp only[VObj.ho,zQd,List.take_zero,K2,Jo];rw[hlen,Ws (by rw[hlen2];exact Qe _),Jq]
 ·rename_i b i c
  split at he<;>(try (simp at he;done))
  rename_i c' ds hb;split at he<;>(try (simp at he;done))
  rename_i hcond;obtain⟨rfl,hs⟩:=hcond;split at he<;>(try (simp at he;done))
  rename_i d hd;split at he<;>(try (simp at he;done))
  rename_i hi;refine⟨_,he, ?_⟩;have hfl:v.cv.flat=(valC c' d).flat:=by rw[VV.zYe,xW2 hd]
  simp only[zJd,hj,VV.cv,zWr hb,hfl];rw[Qf ⟨by rw[zQt];exact hs,by rw[zQp,←hs,←Kg];exact Qn _ hi,zKi _ _⟩,zQy]
  simp only[VObj.ho,xKc hi]
 ·rename_i b i c o
  split at he<;>(try (simp at he;done))
  rename_i c' ds hb;split at he<;>(try (simp at he;done))
  rename_i hcond;obtain⟨rfl,hs,ho⟩:=hcond;split at he<;>(try (simp at he;done))
  rename_i hi;replace hi:i<ds.length:=hi;replace he:(match deV c' (zQd (zJs c' (ds.getD i (dfl c'))) o v.flat)with
     |some d=>Z.bnd (Z.set ds i d) fun x=>K (h.set b (.vec c' x))
     |none=>none)=some r:=he
  split at he<;>(try (simp at he;done))
  rename_i d hd;refine⟨_,he, ?_⟩;have hcv:=xW2 hd;rw[yXq,zKu,←VV.zYe]at hcv;have hlen:v.cv.flat.length=j.size:=by rw[VV.zYe,Qh];exact hs
  have hone:v.cv.flat.all CV.one=true:=by
   have h1:=zKi c' d;rw[←hcv]at h1;rw[Qq]at h1⊢;intro y hy;exact h1 y (by unfold zQd;simp[hy])
  simp only[zJd,hj,VV.cv,zWr hb];have hle:i*c'.cells+o+j.size≤(vecC c' ds).length:=by
   have h1:i*c'.cells+c'.cells≤ds.length*c'.cells:=by rw[←Kg];exact Qn _ hi
   rw[zQp];omega
  rw[Qf ⟨hlen,hle,hone⟩,zQy];simp only[VObj.ho];rw[xYn hi (by rw[hlen];exact ho) hcv.symm]
 ·rename_i b c d i o
  split at he<;>(try (simp at he;done))
  rename_i c' dss hb;split at he<;>(try (simp at he;done))
  rename_i hcc;subst hcc;split at he<;>(try (simp at he;done))
  rename_i hx;obtain⟨k,off,n,gen,rfl,q1,q2,q3,q4⟩:=yK8 hx;replace q1:k<dss.length:=q1;replace q2:gen=(dss.getD k []).length:=q2;have hi:off+i<(dss.getD k []).length:=by omega
  have hset:∀(cs:List CV) (row:List (El c')),vecC c' row=cs→hc (h.set b (.rows c' (dss.set k row)))=(hc h).set b (.rows ((dss.map (vecC c')).set k cs)):=by
   intro cs row e;rw[zQy];simp only[VObj.ho,Jb,e]
  split at he
  ·rename_i hcond
   obtain⟨rfl,hs⟩:=hcond;split at he<;>(try (simp at he;done))
   rename_i x hd;refine⟨_,he, ?_⟩;have hfl:v.cv.flat.map tkC=(valC c' x).flat:=by rw[xKi,xW2 hd]
   simp only[zJd,hj,VV.cv,zJg hb q1 q2,hfl,zJn hb,Ks];rw[Qf ⟨by rw[zQt];exact hs,by rw[zQp,←hs,←Kg];exact Qn _ hi,zKi _ _⟩]
   congr 1;exact(hset _ _ (xKc hi)).symm
  ·split at he<;>(try (simp at he;done))
   rename_i hcond;obtain⟨hs,ho⟩:=hcond;replace he:(match deV c' (zQd (zJs c' ((dss.getD k []).getD (off+i) (dfl c'))) o (v.flat.map tkV))with
      |some x=>Z.bnd (Z.xset dss (MixE.ref k off n gen) i x) fun m=>K (h.set b (.rows c' m))
      |none=>none)=some r:=he
   split at he<;>(try (simp at he;done))
   rename_i x hd;refine⟨_,he, ?_⟩;have hcv:=xW2 hd;rw[yXq,zKu,←xKi]at hcv;have hlen:(v.cv.flat.map tkC).length=j.size:=by rw[xKi,Qh,Qh];exact hs
   have hone:(v.cv.flat.map tkC).all CV.one=true:=by
    have h1:=zKi c' x;rw[←hcv]at h1;rw[Qq]at h1⊢;intro y hy;exact h1 y (by unfold zQd;simp[hy])
   simp only[zJd,hj,VV.cv,zJg hb q1 q2,zJn hb];have hle:(off+i)*c'.cells+o+j.size≤(vecC c' (dss.getD k [])).length:=by
    have h1:(off+i)*c'.cells+c'.cells≤(dss.getD k []).length*c'.cells:=by rw[←Kg];exact Qn _ hi
    rw[zQp];omega
   rw[Qf ⟨hlen,hle,hone⟩];congr 1;exact(hset _ _ (xYn hi (by rw[hlen];exact ho) hcv.symm)).symm
theorem zYo{e:TypeId}{j:TI}{x:VV}{c:C}{k:List (El c)→Option β}(he:srcV ty h e j x c k=some r):fitC j c=true:=by
 unfold srcV at he;split at he
 ·assumption
 ·cases he
theorem vQs{e:TypeId}{j:TI}{c c':C}{ds:List (El c')}{tok:Option Nat}{full:Bool}{k:List (El c)→Option β}(he:srcV ty h e j (.sl c' ds tok full) c k=some r):c'=c:=by
 unfold srcV at he;split at he
 ·simp only at he
  split at he
  ·assumption
  ·cases he
 ·cases he
def yZ3 (ty:Ty)(h:zQa)(t u:TypeId)(s x:VV)(K:VV→zQa→Option β):Option β:=
 match ty t,ty u with
 | some i,some iu=>
  match i.desc with
  | .slice e=>match ty e,cOf ty 8 e with
   | some j,some c=>
    if yXa iu.desc=false∧¬2^30<j.bytes then
     srcV ty h e j x c fun ys=>srcV ty h e j s c fun xs=>
      if Z.Big (Z.len xs) (Z.len ys) j.bytes then none else
      match s with
      | .sl c' _ tok full=>match full with
       |true=>if Z.EqN (Z.len xs) 0 then Z.bnd (Z.app xs ys) fun zs=>K (.sl c zs (some h.length) false) (h++[.tail (Z.len zs)])
        else if Z.EqN (Z.len ys) 0 then K s h else Z.bnd (Z.app xs ys) fun zs=>K (.sl c zs (some h.length) false) (h++[.tail (Z.len zs)])
       |false=>match tok with
       |some k=>match h[k]? with
        |some (.tail v)=>if Z.EqN v (Z.len xs)then Z.bnd (Z.app xs ys) fun zs=>K (.sl c zs (some k) false) (h.set k (.tail (Z.len zs)))else none
        |_=>none
       |none=>Z.zZ7 7777776 [] [] []
      | .nsl=>Z.bnd (Z.app xs ys) fun zs=>K (.sl c zs (some h.length) false) (h++[.tail (Z.len zs)])
      | .sref b _ _ _ _ _=>Z.bnd (Z.app xs ys) fun zs=>K (.sl c zs (some h.length) false) (h.set b .dead++[.tail (Z.len zs)])
      |_=>none
    else none
   |_,_=>none
  |_=>none
 |_,_=>none
theorem zZf{c:C}{ds:List (El c)}:ds.map (valC c)=[]↔ds=[]:=by simp
theorem wYs{t u:TypeId}{s x:VV}{K:VV→zQa→Option β}(he:yZ3 ty h t u s x K=some r):∃v h',K v h'=some r∧zXk true ty (hc h) t u s.cv x.cv=some (v.cv,hc h'):=by
 unfold yZ3 at he;split at he<;>(try (simp at he;done))
 rename_i i iu hi hiu;split at he<;>(try (simp at he;done))
 rename_i e hd;split at he<;>(try (simp at he;done))
 rename_i j c hj hcc;split at he<;>(try (simp at he;done))
 rename_i hcond;obtain⟨ys,h1,e1⟩:=zZ6 he;obtain⟨xs,h2,e2⟩:=zZ6 h1;split at h2
 ·cases h2
 rename_i hbig;have hones:((xs.map (valC c)++ys.map (valC c)).flatMap CV.flat).all CV.one=true:=by
  rw[←Qw,Q6];exact zXc c (xs++ys)
 have hfit:fitC j c=true:=zYo he;obtain⟨f1,f2,f3⟩:=zXv hfit;have hn1:¬2^30<j.bytes:=hcond.2;have happ:∀y,appC (hc h) j iu.desc y=srcE (hc h) j y:=fun y=>by unfold appC;rw[hcond.1];rfl
 have hbig':¬(2^44<((xs.map (valC c)).length+(ys.map (valC c)).length)*(j.bytes+1)∨(!((xs.map (valC c)++ys.map (valC c)).flatMap CV.flat).all CV.one)=true):=by
  rintro(h|h)
  ·exact hbig (by simpa only[Qh]using h)
  ·rw[hones]at h;exact absurd h (by decide)
 unfold zXk;simp only[hi,hiu,hd,hj];rw[Qi hn1];simp only[happ,e1,e2];split at h2<;>(try (simp at h2;done))
 ·rename_i c' ds' tok full
  split at h2
  ·have hsr:zKz (VV.sl c' ds' tok true).cv=false:=rfl
   have res:some (CV.slice j.size (xs.map (valC c)++ys.map (valC c)) (some (hc h).length) false,hc h++[HObj.tail ((xs.map (valC c)).length+(ys.map (valC c)).length)])=
     some ((VV.sl c (xs++ys) (some h.length) false).cv,hc (h++[.tail (xs++ys).length])):=by
    simp[VV.cv,f2,hc,VObj.ho]
   split at h2
   ·rename_i hx0
    refine⟨_,_,h2, ?_⟩;have hx:xs.map (valC c)=[]:=zZf.2 (Qr.1 hx0);by_cases hy:ys.map (valC c)=[]
    ·rw[Qf ⟨hy,by rw[hsr];rfl⟩]
     simp only[VV.cv,if_true];rw[Qf hx];exact res
    ·rw[Qi (fun h=>hy h.1),Qi hbig']
     simp only[VV.cv,if_true];exact res
   ·rename_i hx0
    have hx:¬xs.map (valC c)=[]:=fun e=>hx0 (Qr.2 (zZf.1 e))
    split at h2
    ·rename_i hy0
     refine⟨_,_,h2, ?_⟩;have hy:ys.map (valC c)=[]:=zZf.2 (Qr.1 hy0);rw[Qf ⟨hy,by rw[hsr];rfl⟩]
     simp only[VV.cv,if_true];rw[Qi hx]
    ·rename_i hy0
     refine⟨_,_,h2, ?_⟩;have hy:¬ys.map (valC c)=[]:=fun e=>hy0 (Qr.2 (zZf.1 e))
     rw[Qi (fun h=>hy h.1),Qi hbig']
     simp only[VV.cv,if_true];exact res
  ·split at h2<;>(try (simp at h2;done))
   rename_i k;split at h2<;>(try (simp at h2;done))
   rename_i v0 hk;split at h2<;>(try (simp at h2;done))
   rename_i hv0;refine⟨_,_,h2, ?_⟩;have hk':(hc h)[k]?=some (.tail v0):=by rw[zQ6,hk];rfl
   have hcs:c'.cells=j.size:=by
    have:srcE (hc h) j (VV.sl c' ds' (some k) false).cv=some (xs.map (valC c)):=e2;have:=vQs h1;subst this;exact f2.symm
   have res:some (CV.slice j.size (xs.map (valC c)++ys.map (valC c)) (some k) false,(hc h).set k (HObj.tail ((xs.map (valC c)).length+(ys.map (valC c)).length)))=
     some ((VV.sl c (xs++ys) (some k) false).cv,hc (h.set k (.tail (xs++ys).length))):=by
    simp[VV.cv,zQy,f2,VObj.ho]
   have hsr:zKz (VV.sl c' ds' (some k) false).cv=false:=rfl;by_cases hy:ys.map (valC c)=[]
   ·rw[Qf ⟨hy,by rw[hsr];rfl⟩]
    simp only[VV.cv,if_true,Jv,if_false,hk'];rw[Qf ⟨by simpa using hv0,hcs⟩]
    exact res
   ·rw[Qi (fun h=>hy h.1),Qi hbig']
    simp only[VV.cv,Jv,if_false,hk'];rw[Qf ⟨by simpa using hv0,hcs⟩]
    exact res
 ·have hsr:zKz VV.nsl.cv=false:=rfl
  refine⟨_,_,h2, ?_⟩;have res:some (CV.slice j.size (xs.map (valC c)++ys.map (valC c)) (some (hc h).length) false,hc h++[HObj.tail ((xs.map (valC c)).length+(ys.map (valC c)).length)])=
    some ((VV.sl c (xs++ys) (some h.length) false).cv,hc (h++[.tail (xs++ys).length])):=by
   simp[VV.cv,f2,hc,VObj.ho]
  have hx:xs.map (valC c)=[]:=by
   have e3:=e2;simp only[srcE,VV.cv]at e3;split at e3<;>simp at e3;simp[e3]
  by_cases hy:ys.map (valC c)=[]
  ·rw[Qf ⟨hy,by rw[hsr];rfl⟩]
   simp only[VV.cv,if_true];rw[Qf hx];exact res
  ·rw[Qi (fun h=>hy h.1),Qi hbig']
   simp only[VV.cv,if_true];exact res
 ·rename_i b off len cap ex c'
  refine⟨_,_,h2, ?_⟩;have hsr:zKz (VV.sref b off len cap ex c').cv=true:=rfl;rw[Qi (fun h=>by have:=h.2;rw[hsr]at this;simp at this),Qi hbig']
  simp only[VV.cv,if_true];simp[f2,hc,VObj.ho,Jb]
theorem wWr{α:Type}{m:List (List α)}{d:MixE α}(h:d.xgr m=true):∃k n,d=.ref k 0 n n∧k<m.length∧n=(m.getD k []).length:=by
 cases d with
 |ref k off n gen=>
  simp only[MixE.xgr,Qc,decide_eq_true_eq,beq_iff_eq]at h;obtain⟨h1,h2,h3,h4⟩:=h;subst h3;subst h4;exact⟨k,n,rfl,h1,h2⟩
 |_=>simp[MixE.xgr]at h
def xXd (ty:Ty)(h:zQa)(t u:TypeId)(b:Nat)(c:C)(d:MixE (El c))(x:VV)(K:VV→zQa→Option β):Option β:=
 match ty t,ty u with
 | some i,some iu=>
  match i.desc with
  | .slice e=>match ty e with
   | some j=>
    if yXa iu.desc=false∧¬2^30<j.bytes∧0<c.cells then
     srcV ty h e j x c fun ys=>match h[b]? with
      | some (.rows c' dss)=>if hcc:c'=c then(if Z.XGr (hcc▸dss:List (List (El c))) d then
        (if Z.EqN (Z.len ys) 0 then K (.mix b c d) h else if Z.Big (Z.xlen d) (Z.len ys) j.bytes then none else
         Z.bnd (Z.xapp (hcc▸dss:List (List (El c))) d ys) fun m=>Z.bnd (Z.wY1 d (Z.len ys)) fun d'=>K (.mix b c d') (h.set b (.rows c m)))else none)else none
      |_=>none
    else none
   |none=>none
  |_=>none
 |_,_=>none
theorem yJ2{lit:Bool}{t u:TypeId}{b:Nat}{c:C}{d:MixE (El c)}{x:VV}{K:VV→zQa→Option β}(he:xXd ty h t u b c d x K=some r):
  ∃v h',K v h'=some r∧zXk lit ty (hc h) t u (VV.mix b c d).cv x.cv=some (v.cv,hc h')∧(h'=h∨∃o,h'=h.set b o):=by
 unfold xXd at he;split at he<;>(try (simp at he;done))
 rename_i i iu hi hiu;split at he<;>(try (simp at he;done))
 rename_i e hd;split at he<;>(try (simp at he;done))
 rename_i j hj;split at he<;>(try (simp at he;done))
 rename_i hcond;have hfit:fitC j c=true:=zYo he;obtain⟨ys,h1,e1⟩:=zZ6 he;split at h1<;>(try (simp at h1;done))
 rename_i c' dss hb;split at h1<;>(try (simp at h1;done))
 rename_i hcc;subst hcc;split at h1<;>(try (simp at h1;done))
 rename_i hx;obtain⟨k,n,rfl,q1,q2⟩:=wWr hx;replace q1:k<dss.length:=q1;replace q2:n=(dss.getD k []).length:=q2;obtain⟨f1,f2,f3⟩:=zXv hfit;have happ:∀y,appC (hc h) j iu.desc y=srcE (hc h) j y:=fun y=>by unfold appC;rw[hcond.1];rfl
 have hxok:(MixE.ref k 0 n n:MixE (El c')).xok dss=true:=by
  simp only[MixE.xok,Qc,decide_eq_true_eq,beq_iff_eq];exact⟨q1,q2,by omega⟩
 have e2:=vW1 (j:=j) hb hfit hxok;have hget:Z.xget dss (MixE.ref k 0 n n)=dss.getD k []:=by
  show((dss.getD k []).drop 0).take n=_;rw[Jt,q2,Jj]
 rw[hget]at e2;have hones:(((dss.getD k []).map (valC c')++ys.map (valC c')).flatMap CV.flat).all CV.one=true:=by
  rw[←Qw,Q6];exact zXc c' (dss.getD k []++ys)
 unfold zXk;simp only[hi,hiu,hd,hj];rw[Qi hcond.2.1];simp only[happ,e1,e2];have hsr:zKz (VV.mix b c' (MixE.ref k 0 n n)).cv=false:=rfl;split at h1
 ·rename_i hy0
  refine⟨_,_,h1, ?_, .inl rfl⟩;have hy:ys.map (valC c')=[]:=zZf.2 (Qr.1 hy0);rw[Qf ⟨hy,by rw[hsr];simp⟩]
  rfl
 ·rename_i hy0
  split at h1
  ·cases h1
  rename_i hbig;have hy:¬ys.map (valC c')=[]:=fun e=>hy0 (Qr.2 (zZf.1 e))
  refine⟨_,_,h1, ?_, .inr ⟨_,rfl⟩⟩;have hlen:(dss.getD k []).length=n:=q2.symm;have hbig':¬(2^44<(((dss.getD k []).map (valC c')).length+(ys.map (valC c')).length)*(j.bytes+1)∨(!(((dss.getD k []).map (valC c')++ys.map (valC c')).flatMap CV.flat).all CV.one)=true):=by
   rintro(h|h)
   ·refine hbig ?_
    rw[Qh,Qh,hlen]at h;exact h
   ·rw[hones]at h;exact absurd h (by decide)
  rw[Qi (fun h=>hy h.1),Qi hbig']
  simp only[VV.cv,valC,mixC,zJg hb q1 q2,zJn hb];rw[Qf ⟨by omega,f2.symm,by rw[f2];exact hcond.2.2,by rw[f2]⟩]
  simp only[Qh,hlen,zQy,VObj.ho,Qa,Je];refine⟨by simp[f2,Qz], ?_⟩
  congr 2;show _=(dss.set k (dss.getD k []++ys)).map (vecC c');rw[Jb,yQu,Q6];rfl
end
end Go.Eng
/- The evaluator over typed symbolic values: definitions. -/
namespace Go.Eng
set_option linter.unusedVariables false
section
variable {β:Type}
def vZf(ty:Ty)(h:zQa)(ρ:Operand→VV)(cl:Call)(K:VV→Option β):Option β:=
 match cl.callee with
 | .builtin .len=>match cl.args.toList,cl.argTypes.toList with
  |[x],[t]=>lenV ty h t (ρ x) K
  |_,_=>none
 | .builtin .cap=>match cl.args.toList,cl.argTypes.toList with
  |[x],[t]=>capV ty h t (ρ x) K
  |_,_=>none
 | .builtin .max=>match cl.args.toList with
  |x::xs=>match maxV true (ρ x) (xs.map ρ)with
   |some v=>K v
   |none=>none
  |[]=>none
 | .builtin .min=>match cl.args.toList with
  |x::xs=>match maxV false (ρ x) (xs.map ρ)with
   |some v=>K v
   |none=>none
  |[]=>none
 |_=>none
def vYr:Operand→Bool
 | .const (.slice none 0 0)=>true
 |_=>false
def vW6(ty:Ty)(t:TypeId):Option (IntKind×IntKind):=
 match ty t with
 | some i=>match i.desc with
  | .map kt e=>match ty kt,ty e with
   |some jk,some j=>match jk.desc,zeroV j with
    | .int k1,some (.int k2 n)=>if n=0 then some (k1,k2)else none
    |_,_=>none
   |_,_=>none
  |_=>none
 |none=>none
def xJg(ty:Ty)(n:Nat)(t:TypeId)(r:Option VV)(K:VV→Option VObj→Option β):Option β:=
 match vW6 ty t with
 | some (k1,k2)=>match r with
  |none=>K (.map n) (some (.map k1 k2 []))
  |some v=>match v with
   | .int _ _=>K (.map n) (some (.map k1 k2 []))
   |_=>none
 |none=>none
def wXv(ty:Ty)(h:zQa)(t:TypeId)(m k:VV)(ok:Bool)(K:VV→Option β):Option β:=
 match vW6 ty t with
 | some (k1,k2)=>match m,k with
  | .map b, .int k0 n=>match h[b]? with
   | some (.map j1 j2 es)=>if k0=k1∧j1=k1∧j2=k2 then
     (match ok with
     |true=>Z.bnd (Z.mget es n) fun v=>Z.bnd (Z.mhas es n) fun w=>K (.tuple [.int k2 v, .bool w])
     |false=>Z.bnd (Z.mget es n) fun v=>K (.int k2 v))else none
   |_=>none
  |_,_=>none
 |none=>none
def yJo(ty:Ty)(h:zQa)(t:TypeId)(m k v:VV)(K:zQa→Option β):Option β:=
 match vW6 ty t with
 | some (k1,k2)=>match m,k,v with
  | .map b, .int k0 n, .int k3 x=>match h[b]? with
   |some (.map j1 j2 es)=>if k0=k1∧j1=k1∧j2=k2∧k3=k2 then Z.bnd (Z.mput es n x) fun zs=>K (h.set b (.map k1 k2 zs))else none
   |_=>none
  |_,_,_=>none
 |none=>none
def sapV(ty:Ty)(t:TypeId)(x:VV)(K:VV→Option β):Option β:=
 match ty t with
 | some i=>match i.desc with
  | .array n e=>match ty e with
   |some j=>match x with
    | .sl c ds _ _=>if c.cells=j.size∧0<n then(if Z.Le n (Z.len ds)then K (.rop (.av n c ds))else none)else none
    |_=>none
   |none=>none
  |_=>none
 |none=>none
def wXz:VV→Bool
 | .ifc _ _=>true
 | .niliface=>true
 |_=>false
def ifcV(ty:Ty)(op:BinOp)(t:TypeId)(cst:Bool)(x y:VV)(K:VV→Option β):Option β:=
 match wXz x&&wXz y with
 |true=>(match binC ty [] op t cst false x.cv y.cv with
  |some (.bool b)=>K (.bool b)
  |_=>none)
 |false=>none
mutual
def zZd:CV→Option VV
 | .int k n=>some (.int k n)
 | .bool b=>some (.bool b)
 | .nilptr=>some .nilptr
 | .agg cs=>match yJj cs with
  |some vs=>some (.agg vs)
  |none=>none
 | .tuple cs=>match yJj cs with
  |some vs=>some (.tuple vs)
  |none=>none
 |_=>none
def yJj:List CV→Option (List VV)
 |[]=>some []
 |c::cs=>match zZd c,yJj cs with
  |some v,some vs=>some (v::vs)
  |_,_=>none
end
def wZp(ty:Ty)(x:VV)(t:TypeId)(ok:Bool)(K:VV→Option β):Option β:=
 match zJ4 ty x.cv t ok with
 |some c=>(match zZd c with
  |some v=>K v
  |none=>none)
 |none=>none
noncomputable def opVQ(ty:Ty)(h:zQa)(ρ:Operand→VV)(o:Op)(K:VV→Option VObj→Option β):Option β:=
 match o with
 | .move x| .assign x=>K (ρ x) none
 | .pick a b d=>uWf (ρ a) (ρ b) (ρ d) fun v=>K v none
 | .alloc t=>vZw ty h.length t K
 | .box _ x=>boxV h.length (ρ x) K
 | .build t parts=>vZl ty t (parts.toList.map fun p=>(p.1,ρ p.2)) fun v=>K v none
 | .buildSlice t len parts=>yWc ty h.length t len (parts.toList.map fun p=>(p.1,ρ p.2)) K
 | .load t a=>vJe ty h t (ρ a) fun v=>K v none
 | .nilCheck x=>xWk h (ρ x) fun v=>K v none
 | .binOp op t x y _=>match wXz (ρ x)with
  |true=>ifcV ty op t (isConst x||isConst y) (ρ x) (ρ y) fun v=>K v none
  |false=>match vYr y,ρ y with
  |true, .nsl=>nilV ty h op t (ρ x) fun v=>K v none
  |_,b=>binV ty op t (ρ x) b fun v=>K v none
 | .unOp op _ x=>unV op (ρ x) fun v=>K v none
 | .makeInterface t x=>match yX2 ty t (ρ x).cv with
  |some (.iface u c)=>K (.ifc u c) none
  |_=>none
 | .convert s t x=>uXk ty h h.length s t (ρ x) K
 | .sliceToArrayPointer t x=>sapV ty t (ρ x) fun v=>K v none
 | .makeFunc f first captured=>match f with
  | .func g=>K (.func g (first.toList.map ρ) (captured.toList.map ρ)) none
  |_=>none
 | .makeSlice t l m=>yJq ty h.length t (ρ l) (ρ m) K
 | .makeMap t r=>xJg ty h.length t (r.map ρ) K
 | .lookup t m k ok=>wXv ty h t (ρ m) (ρ k) ok fun v=>K v none
 | .slice t x lo hi mx=>vQ8 ty h t (ρ x) (lo.map ρ) (hi.map ρ) (mx.map ρ) fun v=>K v none
 | .fieldAddr t x f=>yJx ty h t (ρ x) f fun v=>K v none
 | .field t x f=>vXt ty t (ρ x) f fun v=>K v none
 | .indexAddr t x i=>yJu ty h t (ρ x) (ρ i) fun v=>K v none
 | .index t x i=>vXk ty t (ρ x) (ρ i) fun v=>K v none
 | .extract x i=>xJz (ρ x) i fun v=>K v none
 | .typeAssert x _ t ok=>wZp ty (ρ x) t ok fun v=>K v none
 | .call cl=>vZf ty h ρ cl fun v=>K v none
 |_=>none
def copyV(ty:Ty)(h:zQa)(t:TypeId)(d s:VV)(K:VV→zQa→Option β):Option β:=
 match ty t with
 | some i=>match i.desc with
  | .slice e=>match ty e,cOf ty 8 e with
   | some j,some c=>srcV ty h e j s c fun ys=>
    match d with
    | .sref b off len cap ex c'=>match h[b]? with
     | some (.vec c'' ds)=>if c'=c then(if hcc:c''=c then(if Z.Le (Z.addN off len) (Z.len ds)then
       K (.int .i64 (Z.ofN (Z.minN (Z.len ys) len))) (h.set b (.vec c (Z.put (hcc▸ds:List (El c)) off (Z.take (Z.minN (Z.len ys) len) ys))))
      else none)else none)else none
     |_=>none
    | .mix b c' d=>match h[b]? with
     | some (.rows c'' dss)=>if hc':c'=c then(if hcc:c''=c then(if Z.XW (hcc▸dss:List (List (El c))) (hc'▸d:MixE (El c))then
       Z.bnd (Z.xput (hcc▸dss:List (List (El c))) (hc'▸d:MixE (El c)) (Z.take (Z.minN (Z.len ys) (Z.xlen d)) ys)) fun m=>
       K (.int .i64 (Z.ofN (Z.minN (Z.len ys) (Z.xlen d)))) (h.set b (.rows c m))
      else none)else none)else none
     |_=>none
    |_=>none
   |_,_=>none
  |_=>none
 |none=>none
def codeS(c:Option C)(s x:VV):Option C:=
 match s with
 | .sl c0 _ none true=>some c0
 | .sref _ _ len _ ex _=>(match ex with
  | true=>(match len with
   |0=>(match x with
    | .mix _ c1 _=>some c1
    | .sref _ _ _ _ _ c1=>some c1
    |_=>c)
   |_=>c)
  |false=>c)
 |_=>c
def srcS(ty:Ty)(h:zQa)(e:TypeId)(j:TI)(s:VV)(c:C)(K:List (El c)→Option β):Option β:=
 match s with
 | .sref b off len cap ex c'=>(match decEq c' c with
  |isTrue _=>srcV ty h e j (.sref b off len cap ex c') c K
  | isFalse _=>(match h[b]? with
   | some (.vec _ _)=>(match ex with
    |true=>(match len with
     |0=>srcV ty h e j (.sref b off 0 cap true c') c' fun _=>K []
     |_=>none)
    |false=>none)
   |_=>srcV ty h e j (.sref b off len cap ex c') c K))
 |s=>srcV ty h e j s c K
def xYe(ty:Ty)(h:zQa)(t u:TypeId)(s x:VV)(K:VV→zQa→Option β):Option β:=
 match ty t,ty u with
 | some i,some iu=>
  match i.desc with
  | .slice e=>match ty e,codeS (cOf ty 8 e) s x with
   | some j,some c=>
    if yXa iu.desc=false∧¬2^30<j.bytes then
     srcV ty h e j x c fun ys=>srcS ty h e j s c fun xs=>
      if Z.EqN (Z.len ys) 0 then(match s with
       | .sl _ _ _ _=>K s h
       | .nsl=>K s h
       | .sref _ _ _ _ _ _=>K s h
       |_=>none)
      else if Z.Big (Z.len xs) (Z.len ys) j.bytes then none else
      match s with
      | .sl c' _ tok full=>match full with
       |true=>Z.bnd (Z.app xs ys) fun zs=>K (.sref h.length 0 (Z.len zs) (Z.len zs) false c) (h++[.vec c zs])
       |false=>none
      | .nsl=>Z.bnd (Z.app xs ys) fun zs=>K (.sref h.length 0 (Z.len zs) (Z.len zs) false c) (h++[.vec c zs])
      | .sref b _ _ _ _ _=>Z.bnd (Z.app xs ys) fun zs=>K (.sref h.length 0 (Z.len zs) (Z.len zs) false c) (h.set b .dead++[.vec c zs])
      |_=>none
    else none
   |_,_=>none
  |_=>none
 |_,_=>none
def vZ8(j:TI)(c:C):Bool:=
 match zeroV j with
 |some z=>z.same (valC c (dfl c))
 |none=>false
noncomputable def xYd(ty:Ty)(h:zQa)(t u:TypeId)(s x:VV)(K:VV→zQa→Option β):Option β:=
 match ty t,ty u with
 | some i,some iu=>
  match i.desc with
  | .slice e=>match ty e,cOf ty 8 e with
   | some j,some c=>
    if yXa iu.desc=true∧¬2^30<j.bytes∧vZ8 j c=true then
     match x with
     | .int _ n=>srcV ty h e j s c fun xs=>if Z.ZOk n j.bytes then Z.bnd (Z.rep (Z.toN n) (dfl c)) fun ys=>
      if Z.EqN (Z.len ys) 0 then none else if Z.Big (Z.len xs) (Z.len ys) j.bytes then none else
      match s with
      | .sl c' _ tok full=>match full with
       |true=>Z.bnd (Z.app xs ys) fun zs=>K (.sref h.length 0 (Z.len zs) (Z.len zs) false c) (h++[.vec c zs])
       |false=>none
      | .nsl=>Z.bnd (Z.app xs ys) fun zs=>K (.sref h.length 0 (Z.len zs) (Z.len zs) false c) (h++[.vec c zs])
      | .sref b _ _ _ _ _=>Z.bnd (Z.app xs ys) fun zs=>K (.sref h.length 0 (Z.len zs) (Z.len zs) false c) (h.set b .dead++[.vec c zs])
      |_=>none
      else none
     |_=>none
    else none
   |_,_=>none
  |_=>none
 |_,_=>none
noncomputable def xQh(ty:Ty)(h:zQa)(t u:TypeId)(s x:VV)(K:VV→zQa→Option β):Option β:=
 match ty t,ty u with
 | some i,some iu=>
  match i.desc with
  | .slice e=>match ty e,cOf ty 8 e with
   | some j,some c=>
    if yXa iu.desc=true∧¬2^30<j.bytes∧vZ8 j c=true then
     match x with
     | .int _ n=>srcV ty h e j s c fun xs=>if Z.ZOk n j.bytes then Z.bnd (Z.rep (Z.toN n) (dfl c)) fun ys=>
      if Z.Big (Z.len xs) (Z.len ys) j.bytes then none else
      match s with
      | .sl c' _ tok full=>match full with
       |true=>none
       | false=>match tok with
        |some k=>match h[k]? with
         |some (.tail v)=>if Z.EqN v (Z.len xs)then Z.bnd (Z.app xs ys) fun zs=>K (.sl c zs (some k) false) (h.set k (.tail (Z.len zs)))else none
         |_=>none
        |none=>none
      | .nsl=>Z.bnd (Z.app xs ys) fun zs=>K (.sl c zs (some h.length) false) (h++[.tail (Z.len zs)])
      |_=>none
      else none
     |_=>none
    else none
   |_,_=>none
  |_=>none
 |_,_=>none
def wJc(ty:Ty)(u:TypeId):Bool:=
 match ty u with
 |some iu=>yXa iu.desc
 |none=>false
def srA(v:VV):Bool:=match v with
 | .sref _ _ _ _ _ _=>true
 |_=>false
def uXl:C→Nat→Option C
 | .list c,_=>some c
 | .pair a b,j=>if j<a.cells then uXl a j else uXl b (j-a.cells)
 |_,_=>none
def uXa(c0:C)(b j:Nat)(h:zQa)(K:zQa→Option β):Option β:=
 match h[b]? with
 | some (.cells vs)=>match vs[j]? with
  |some (.sref b1 off len cap ex c)=>match h[b1]? with
   |some (.vec c' ds)=>if b1≠b∧c'=c∧c.cells=1∧c.agg=false then(if Z.Le (Z.addN off len) (Z.len ds)then K ((h.set b1 .dead).set b (.cells (vs.set j (.sl c' (Z.seg ds off len) none false))))else none)else none
   |_=>none
  |some .nsl=>(match uXl c0 (j % c0.cells)with
   |some c'=>if c'.cells=1 then K (h.set b (.cells (vs.set j (.sl c' [] none false))))else none
   |none=>none)
  |some (.sl _ _ none true)=>none
  |some (.mix _ _ _)=>none
  |_=>K h
 |_=>none
def uW6(c0:C)(b:Nat):List Nat→zQa→(zQa→Option β)→Option β
 |[],h,K=>K h
 |j::js,h,K=>uXa c0 b j h fun h=>uW6 c0 b js h K
def frzX(h:zQa)(x:VV)(K:zQa→Option β):Option β:=
 match x with
 | .sref b _ _ _ _ c=>match h[b]? with
  |some (.cells vs)=>(match vs.any srA with
   |true=>uW6 c b (List.range vs.length) h K
   |false=>K h)
  |_=>K h
 |_=>K h
def zfl:(c:C)→El c
 | .mix _ _=>.data []
 | .pair a b=>(zfl a,zfl b)
 |c=>dfl c
def zfp:(c:C)→El c
 | .mix _ c=>Z.zJt ([]:List (El c))
 | .pair a b=>(zfp a,zfp b)
 |c=>dfl c
def cRow(c:Option C)(s:VV):Option C:=match s with
 | .sref _ _ _ _ _ c'=>some c'
 |_=>c
def zeroW(j:TI)(c:C):Bool:=
 match zeroV j with
 |some z=>(wk z).same (valC c (zfl c))
 |none=>false
noncomputable def ysV(ty:Ty)(h:zQa)(e:TypeId)(j:TI)(d:TypeDesc)(x:VV)(c:C)(K:List (El c)→Option β):Option β:=
 match yXa d with
 |false=>srcV ty h e j x c K
 | true=>(match zeroW j c with
  |true=>(match x with
   | .int _ n=>if Z.ZOk n j.bytes then Z.bnd (Z.rep (Z.toN n) (zfp c)) K else none
   |_=>none)
  |false=>none)
noncomputable def xQi(g:Bool)(ty:Ty)(h:zQa)(t u:TypeId)(s x:VV)(K:VV→zQa→Option β):Option β:=
 match ty t,ty u with
 | some i,some iu=>
  match i.desc with
  | .slice e=>match ty e,cRow (cOf ty 8 e) s with
   | some j,some c=>
    if ¬ 2 ^30<j.bytes then
     ysV ty h e j iu.desc x c fun ys=>srcV ty h e j s c fun xs=>
      match s with
      | .sref b off len cap ex c'=>match h[b]? with
       | some (.vec c'' ds)=>if hcc:c''=c∧c'=c then(if Z.Big (Z.len xs) (Z.len ys) j.bytes then none else
         if Z.Le (Z.addN len (Z.len ys)) cap then(match g with
          |false=>(if Z.Le (Z.addN off (Z.addN len (Z.len ys))) (Z.len ds)then
           Z.bnd (Z.put (hcc.1▸ds:List (El c)) (Z.addN off len) ys) fun zs=>K (.sref b off (Z.addN len (Z.len ys)) cap ex c) (h.set b (.vec c zs))else none)
          |true=>none)
         else(match g with
          |true=>(match ex with
           |true=>Z.bnd (Z.app xs ys) fun zs=>K (.sref h.length 0 (Z.len zs) (Z.len zs) false c) (h++[.vec c zs])
           |false=>none)
          |false=>none))else none
       |_=>none
      |_=>none
    else none
   |_,_=>none
  |_=>none
 |_,_=>none
noncomputable def xYf(ty:Ty)(h:zQa)(t u:TypeId)(s x:VV)(K:VV→zQa→Option β):Option β:=
 match ty t,ty u with
 | some i,some iu=>
  match i.desc with
  | .slice e=>match ty e,cRow (cOf ty 8 e) s with
   | some j,some c=>
    if ¬ 2^30<j.bytes then
     ysV ty h e j iu.desc x c fun ys=>srcV ty h e j s c fun xs=>
      match s with
      | .sref b off len cap ex c'=>match h[b]? with
       | some (.vec c'' ds)=>if hcc:c''=c∧c'=c then(if Z.Big (Z.len xs) (Z.len ys) j.bytes then none else
         if Z.Le (Z.addN len (Z.len ys)) cap then
          Z.bnd (Z.put (hcc.1▸ds:List (El c)) (Z.addN off len) ys) fun zs=>K (.sref b off (Z.addN len (Z.len ys)) cap ex c) (h.set b (.vec c zs))
         else(match ex with
          |true=>Z.bnd (Z.app xs ys) fun zs=>K (.sref h.length 0 (Z.len zs) (Z.len zs) false c) (h++[.vec c zs])
          |false=>none))else none
       |_=>none
      |_=>none
    else none
   |_,_=>none
  |_=>none
 |_,_=>none
noncomputable def vX6(ty:Ty)(h:zQa)(t:TypeId)(d s:VV)(K:VV→zQa→Option β):Option β:=
 match ty t with
 | some i=>match i.desc with
  | .slice e=>match ty e,cRow (cOf ty 8 e) d,d,s with
   |some j,some c, .sref b off len _ _ c', .sref b2 off2 len2 _ _ c2'=>(match h[b]?,h[b2]? with
    | some (.vec c1 ds),some (.vec c2 ds2)=>if hcc:c1=c∧c2=c∧c'=c∧c2'=c∧fitC j c=true then
      (if Z.Le (Z.addN off2 (Z.minN len2 len)) (Z.len ds2)then(if Z.Le off (Z.len ds)then
       K (.int .i64 (Z.ofN (Z.minN len2 len))) (h.set b (.vec c (Z.put (hcc.1▸ds:List (El c)) off (Z.seg (hcc.2.1▸ds2:List (El c)) off2 (Z.minN len2 len)))))
      else none)else none)else none
    |_,_=>none)
   |_,_,_,_=>none
  |_=>none
 |none=>none
noncomputable def vZb(ty:Ty)(h:zQa)(t:TypeId)(s:VV)(K:VV→zQa→Option β):Option β:=
 match ty t with
 | some i=>match i.desc with
  | .slice e=>match ty e,cOf ty 8 e with
   | some j,some c=>(match s with
    | .sref b off len _ _ c'=>if CV.yZb (valC c' (zfl c')).flat (j.zero.map wz)=true∧j.size=c'.cells then(match h[b]? with
     | some (.vec c'' ds)=>if hcc:c''=c' then(if Z.Le (Z.addN off len) (Z.len ds)then
       Z.bnd (Z.put (hcc▸ds:List (El c')) off (Z.rep len (zfp c'))) fun zs=>K (.tuple []) (h.set b (.vec c' zs))else none)else none
     |_=>none)else none
    | .mix b c' d=>if CV.yZb (valC c (dfl c)).flat (j.zero.map wz)=true∧j.size=c.cells then(match h[b]? with
     | some (.rows c'' dss)=>if hcc:c''=c∧c'=c then(if Z.XW (hcc.1▸dss:List (List (El c))) (hcc.2▸d:MixE (El c))then
       Z.bnd (Z.xput (hcc.1▸dss:List (List (El c))) (hcc.2▸d:MixE (El c)) (Z.rep (Z.xlen d) (dfl c))) fun m=>K (.tuple []) (h.set b (.rows c m))else none)else none
     |_=>none)else none
    |_=>none)
   |_,_=>none
  |_=>none
 |none=>none
def wWz(ty:Ty)(h:zQa)(t:TypeId)(x v:VV)(K:zQa→Option β):Option β:=
 match x,v with
 | .xptr _ _ _ _ _, .sref b1 off len _ _ c1=>match h[b1]? with
  |some (.vec c' ds)=>if c'=c1∧c1.cells=1∧c1.agg=false then(if Z.Le (Z.addN off len) (Z.len ds)then yWm ty (h.set b1 .dead) t x (.sl c' (Z.seg ds off len) none false) K else none)else none
  |_=>none
 |_,_=>yWm ty h t x v K
noncomputable def opVL(lit:Nat)(ty:Ty)(h:zQa)(ρ:Operand→VV)(o:Op)(K:VV→zQa→Option β):Option β:=
 match o with
 | .store t a x=>wWz ty h t (ρ a) (ρ x) fun h'=>K .undef h'
 | .mapUpdate t m k v=>yJo ty h t (ρ m) (ρ k) (ρ v) fun h'=>K .undef h'
 | .call cl=>match cl.callee,cl.args.toList,cl.argTypes.toList with
  | .builtin .append,[s,x],[t,u]=>(match lit with
   | 0=>frzX h (ρ x) fun h=>(match ρ s with
    | .mix b c d=>xXd ty h t u b c d (ρ x) K
    |sv=>(match wJc ty u with
     |true=>xYd ty h t u sv (ρ x) K
     |false=>xYe ty h t u sv (ρ x) K))
   | 1=>frzX h (ρ x) fun h=>(match ρ s with
    | .mix b c d=>xXd ty h t u b c d (ρ x) K
    |sv=>(match wJc ty u with
     |true=>xQh ty h t u sv (ρ x) K
     |false=>yZ3 ty h t u sv (ρ x) K))
   | 5=>frzX h (ρ x) fun h=>(match ρ s with
    | .mix b c d=>xXd ty h t u b c d (ρ x) K
    | sv=>(match wYc ty t with
     |true=>(match wJc ty u with
      |true=>xYd ty h t u sv (ρ x) K
      |false=>xYe ty h t u sv (ρ x) K)
     |false=>(match wJc ty u with
      |true=>xQh ty h t u sv (ρ x) K
      |false=>yZ3 ty h t u sv (ρ x) K)))
   |2=>xQi false ty h t u (ρ s) (ρ x) K
   |4=>xYf ty h t u (ρ s) (ρ x) K
   |_=>xQi true ty h t u (ρ s) (ρ x) K)
  | .builtin .clear,[s],[t]=>vZb ty h t (ρ s) K
  | .builtin .copy,[d,s],[t,_]=>(match lit with
   |4=>vX6 ty h t (ρ d) (ρ s) K
   |_=>copyV ty h t (ρ d) (ρ s) K)
  |_,_,_=>none
 |_=>none
def VV.blk:VV→List Nat
 | .ptr b _=>[b]
 | .ptrE b _ _=>[b]
 | .ptrF b _ _ _=>[b]
 | .sref b _ _ _ _ _=>[b]
 | .sl _ _ (some k) _=>[k]
 | .map b=>[b]
 | .mix b _ _=>[b]
 | .xptr b _ _ _ _=>[b]
 |_=>[]
def blkA(v:VV):List Nat:=match srA v with
 |true=>v.blk
 |false=>[]
def xX7(h:zQa)(x:VV):List Nat:=match x with
 | .sref b _ _ _ _ _=>match h[b]? with
  |some (.cells vs)=>(match vs.any srA with
   |true=>b::vs.flatMap blkA
   |false=>[])
  |_=>[]
 |_=>[]
def vQg(x v:VV):List Nat:=match x,v with
 | .xptr _ _ _ _ _, .sref b1 _ _ _ _ _=>[b1]
 |_,_=>[]
def zJq(h:zQa)(ρ:Operand→VV)(o:Op):List Nat:=
 match o with
 | .store _ a x=>(ρ a).blk++vQg (ρ a) (ρ x)
 | .mapUpdate _ m _ _=>(ρ m).blk
 | .call cl=>match cl.args.toList with
  |[s,x]=>(match cl.callee with
   | .builtin .append=>(ρ s).blk++xX7 h (ρ x)
   |_=>(ρ s).blk)
  |s::_=>(ρ s).blk
  |[]=>[]
 |_=>[]
def C.xQx:C→Bool
 | .list _=>false
 | .mix _ _=>false
 | .pair a b=>a.xQx&&b.xQx
 | .arr _ c=>c.xQx
 |_=>true
def mklB(ty:Ty)(t:TypeId):Bool:=
 match ty t with
 | some i=>match i.desc with
  | .slice e=>match cOf ty 8 e with
   |some (.list _)=>true
   |_=>false
  |_=>false
 |none=>false
def zcw:List CV→List CV→Bool
 |[],ys=>ys.isEmpty
 | x::xs,ys=>match ys with
  |[]=>false
  |y::ys=>(match x,y with
   | .slice 0 [] none true, .slice _ [] none false=>true
   |x,y=>CV.same x y)&&zcw xs ys
def mkzB(ty:Ty)(t:TypeId):Bool:=
 match ty t with
 | some i=>match i.desc with
  | .slice e=>match cOf ty 8 e with
   |some c=>!c.xQx
   |_=>false
  |_=>false
 |none=>false
noncomputable def uWs(ty:Ty)(h:zQa)(ρ:Operand→VV)(o:Op)(K:VV→zQa→Option β):Option β:=
 match o with
 | .makeSlice t lo mo=>match ty t,ρ lo,ρ mo with
  | some i, .int _ l, .int _ cc=>match i.desc with
   | .slice e=>match ty e,cOf ty 8 e with
    | some j,some c=>if zcw j.zero (valC c (dfl c)).flat=true∧j.size=c.cells then
      (if Z.MkOk l cc j.bytes then K (.sref h.length 0 (Z.toN l) (Z.toN cc) true c) (h++[.vec c (Z.rep (Z.toN cc) (dfl c))])else none)else none
    |_,_=>none
   |_=>none
  |_,_,_=>none
 |_=>none
noncomputable def uWu(ty:Ty)(h:zQa)(ρ:Operand→VV)(o:Op)(K:VV→zQa→Option β):Option β:=
 match o with
 | .makeSlice t lo mo=>match ty t,ρ lo,ρ mo with
  | some i, .int _ l, .int _ cc=>match i.desc with
   | .slice e=>match ty e,cOf ty 8 e with
    |some j,some (.list c)=>match j.zero with
     | [.slice 0 [] none true]=>if j.size=1 then
       (if Z.MkOk l cc j.bytes then K (.sref h.length 0 (Z.toN l) (Z.toN cc) true (.mix (h.length+1) c)) (h++[.vec (.mix (h.length+1) c) (Z.vKa (Z.toN cc)), .rows c (Z.rep (Z.toN cc) [])])else none)else none
     |_=>none
    |_,_=>none
   |_=>none
  |_,_,_=>none
 |_=>none
def uXi(b:Nat):C→Option (C×C)
 | .list c=>some (.mix b c,c)
 | .pair x y=>match uXi b x with
  |some (x',e)=>some (.pair x' y,e)
  |none=>(match uXi b y with
   |some (y',e)=>some (.pair x y',e)
   |none=>none)
 |_=>none
noncomputable def uWt(ty:Ty)(h:zQa)(ρ:Operand→VV)(o:Op)(K:VV→zQa→Option β):Option β:=
 match o with
 | .makeSlice t lo mo=>match ty t,ρ lo,ρ mo with
  | some i, .int _ l, .int _ cc=>match i.desc with
   | .slice e=>match ty e,cOf ty 8 e with
    | some j,some (.list c)=>match uXi h.length c with
     |some (c2,e2)=>(match j.zero with
      | [.slice 0 [] none true]=>if j.size=1 then
        (if Z.MkOk l cc j.bytes then K (.sref (h.length+1) 0 (Z.toN l) (Z.toN cc) true (.mix (h.length+2) c2)) ((h++[.rows e2 []])++[.vec (.mix (h.length+2) c2) (Z.vKa (Z.toN cc)), .rows c2 (Z.rep (Z.toN cc) [])])else none)else none
      |_=>none)
     |none=>none
    |_,_=>none
   |_=>none
  |_,_,_=>none
 |_=>none
inductive OpKind where
 |quiet|loud|mkl|bsl|call (f:Operand)|pan (x:Operand)
def wQj(ty:Ty)(o:Op):OpKind:=
 match o with
 | .makeSlice t _ _=>if mkzB ty t then .mkl else .quiet
 | .buildSlice t _ _=>if mklB ty t then .bsl else .quiet
 | .store _ _ _=>.loud
 | .mapUpdate _ _ _ _=>.loud
 | .panic x=>.pan x
 | .call cl=>match cl.callee with
  | .value f=>.call f
  | .builtin .append=>.loud
  | .builtin .copy=>.loud
  | .builtin .clear=>.loud
  |_=>.quiet
 |_=>.quiet
def putV(tmps:List VV)(dst:Option Tmp)(v:VV):List VV:=
 match dst with
 |some d=>tmps.set d v
 |none=>tmps
def wWt(ops:Array Oper)(tmps:List VV)(o:Oper)(K:List VV→Bool→Option β):Option β:=
 match o.guard with
 |none=>K tmps true
 | some (j,want)=>
  match(ops[j]?).bind (·.dst)with
  |none=>K tmps false
  | some d=>match tmps[d]? with
   |some (.bool b)=>match b with
    |true=>K (tmps.set d (.bool true)) (true==want)
    |false=>K (tmps.set d (.bool false)) (false==want)
   |some .undef=>K tmps false
   |some (.tuple _)=>K tmps false
   |none=>K tmps false
   |_=>none
@[reducible] def Els:List C→Type
  |[]=>Unit
  |[c]=>El c
  |c::d::cs=>El c×Els (d::cs)
def zQ5:(cs:List C)→Els cs→List VV
 |[],_=>[]
 |[c],d=>[valV c d]
 |c::e::cs,d=>valV c d.1::zQ5 (e::cs) d.2
structure PFn where
 args:List C
 res:List C
 fn:Els args→Option (Els res)
mutual
def deW:(c:C)→VV→Option (El c)
 | .bool,v=>match v with
  | .bool b=>some b
  |_=>none
 | .int k,v=>match v with
  | .int k' n=>if k=k' then some n else none
  |_=>none
 | .str,v=>match v with
  | .str s=>some s
  |_=>none
 | .list c,v=>match v with
  | .sl c' ds _ _=>if h:c'=c then some (h▸ds)else none
  | .nsl=>some []
  |_=>none
 | .unit,v=>match v with
  | .agg vs=>deWs .unit vs
  |_=>none
 | .pair a b,v=>match v with
  | .agg vs=>deWs (.pair a b) vs
  |_=>none
 | .arr n c,v=>match v with
  | .av n' c' ds=>if h:c'=c then(if n'=n then some (h▸ds)else none)else none
  | .agg vs=>arrW n c vs
  |_=>none
 | .mix b c,v=>match v with
  | .mix b' c' d=>if h:b'=b∧c'=c then some (h.2▸d)else none
  | .sl c' ds _ _=>if h:c'=c then some (Z.zJt (h▸ds))else(match c' with
   | .arr n _=>(match ds with
    |[]=>if n=c.cells then some (Z.zJt [])else none
    |_::_=>none)
   |_=>none)
  | .nsl=>some Z.xnil
  |_=>none
def deWs:(c:C)→List VV→Option (El c)
 | .unit,vs=>match vs with
  |[]=>some ()
  |_=>none
 | .pair a b,vs=>match deWs a (vs.take a.cells),deWs b (vs.drop a.cells)with
  |some x,some y=>some (x,y)
  |_,_=>none
 | .arr n c,vs=>arrW n c vs
 | .bool,vs=>match vs with
  |[.bool b]=>some b
  |_=>none
 | .int k,vs=>match vs with
  |[.int k' n]=>if k=k' then some n else none
  |_=>none
 | .str,vs=>match vs with
  |[.str s]=>some s
  |_=>none
 | .list c,vs=>match vs with
  |[.sl c' ds _ _]=>if h:c'=c then some (h▸ds)else none
  |[.nsl]=>some []
  |_=>none
 | .mix b c,vs=>match vs with
  |[.mix b' c' d]=>if h:b'=b∧c'=c then some (h.2▸d)else none
  | [.sl c' ds _ _]=>if h:c'=c then some (Z.zJt (h▸ds))else(match c' with
   | .arr n _=>(match ds with
    |[]=>if n=c.cells then some (Z.zJt [])else none
    |_::_=>none)
   |_=>none)
  |[.nsl]=>some Z.xnil
  |_=>none
end
def C.isL:C→Bool
 | .list _=>true
 |_=>false
def deWl(c:C):List VV→Option (List (El c))
 |[]=>some []
 |v::vs=>match deW c v,deWl c vs with
  |some d,some ds=>some (d::ds)
  |_,_=>none
noncomputable def wJo(ty:Ty)(h:zQa)(ρ:Operand→VV)(o:Op)(K:VV→zQa→Option β):Option β:=
 match o with
 | .buildSlice t len parts=>yWc ty h.length t len (parts.toList.map fun p=>(p.1,ρ p.2)) fun v new=>match new with
  | some (.cells vs)=>match v with
   | .sref n off l cap ex c=>if c.isL=true then(match deWl c vs with
    |some ds=>K (.sref n off l cap ex c) (h++[.vec c ds])
    |none=>K (.sref n off l cap ex c) (h++[.cells vs]))else none
   |_=>none
  |some b=>K v (h++[b])
  |none=>none
 |_=>none
def yYt(h:zQa):(c1 c2:C)→{γ:Type}→El c1→(El c2→Option γ)→Option γ
 | .pair a b,c2,_,d,K=>match c2,K with
  | .pair a2 b2,K=>yYt h a a2 d.1 fun x=>yYt h b b2 d.2 fun y=>K (x,y)
  |_,_=>none
 | .mix b c,c2,_,d,K=>match c2,K with
  | .list c',K=>match h[b]? with
   |some (.rows c'' dss)=>if hc:c''=c then(if Z.XOk (hc▸dss:List (List (El c))) d then(match decEq c c' with
    |isTrue hcc=>Z.bnd (Z.xget (hc▸dss:List (List (El c))) d) fun x=>K (hcc▸x)
    |isFalse _=>Z.bind (Z.mapO (fun e=>yYt h c c' e some) (Z.xget (hc▸dss:List (List (El c))) d)) K)else none)else none
   |_=>none
  |_,_=>none
 | .bool,c2,_,d,K=>if hc: .bool=c2 then K (hc▸d)else none
 | .int k,c2,_,d,K=>if hc: .int k=c2 then K (hc▸d)else none
 | .str,c2,_,d,K=>if hc: .str=c2 then K (hc▸d)else none
 | .unit,c2,_,d,K=>if hc: .unit=c2 then K (hc▸d)else none
 | .list c,c2,_,d,K=>if hc: .list c=c2 then K (hc▸d)else none
 | .arr n c,c2,_,d,K=>if hc: .arr n c=c2 then K (hc▸d)else none
def deF0(h:zQa)(c:C)(v:VV)(K:El c→Option β):Option β:=
 match c,v,K with
 | .list c, .sref b off len _ _ c',K=>match h[b]? with
  | some (.vec c'' ds)=>if c'=c then(if hc:c''=c then(if Z.Le (Z.addN off len) (Z.len ds)then K (Z.seg (hc▸ds:List (El c)) off len)else none)else none)
    else if c'.pl=false then(if hc:c''=c' then(if Z.Le (Z.addN off len) (Z.len ds)then Z.bind (Z.mapO (fun e=>yYt h c' c e some) (Z.seg (hc▸ds:List (El c')) off len)) K else none)else none)else none
  |some (.cells vs)=>if c'=c then(if c.isL=true then(if off+len≤vs.length then(match deWl c ((vs.drop off).take len)with
   |some ds=>K ds
   |none=>none)else none)else none)else none
  |_=>none
 | .list c, .mix b c' d,K=>yYt h (.mix b c') (.list c) d K
 |c,v,K=>match deW c v with
  |some d=>K d
  |none=>none
def zXw:VV→Bool
 | .sref _ _ _ _ _ _=>true
 | .mix _ _ _=>true
 |_=>false
def mix1:VV→Bool
 | .mix _ _ _=>true
 | .sref _ _ _ _ _ c=>!c.pl
 |_=>false
def zJk:VV→Bool
 | .agg vs=>vs.any mix1
 |v=>mix1 v
def aggS:VV→Bool
 | .agg vs=>vs.any zXw
 |_=>false
def deS(h:zQa):(c:C)→List VV→(El c→Option β)→Option β
 | .unit,vs,K=>match vs with
  |[]=>K ()
  |_=>none
 | .pair a b,vs,K=>deS h a (vs.take a.cells) fun x=>deS h b (vs.drop a.cells) fun y=>K (x,y)
 | .list c,vs,K=>match vs with
  |[v]=>deF0 h (.list c) v K
  |_=>none
 | .bool,vs,K=>match deWs .bool vs with
  |some d=>K d
  |none=>none
 | .int k,vs,K=>match deWs (.int k) vs with
  |some d=>K d
  |none=>none
 | .str,vs,K=>match deWs .str vs with
  |some d=>K d
  |none=>none
 | .arr n c,vs,K=>match deWs (.arr n c) vs with
  |some d=>K d
  |none=>none
 | .mix b c,vs,K=>none
def deF(h:zQa)(c:C)(v:VV)(K:El c→Option β):Option β:=
 match c.pl with
 |false=>none
 |true=>match aggS v with
 |false=>deF0 h c v K
 |true=>match c,v,K with
  | .pair a b, .agg vs,K=>deS h (.pair a b) vs K
  |_,_,_=>none
def deFs(h:zQa):(cs:List C)→List VV→(Els cs→Option β)→Option β
 |[],vs,K=>match vs with
  |[]=>K ()
  |_=>none
 |[c],vs,K=>match vs with
  |[v]=>deF h c v K
  |_=>none
 |c::e::cs,vs,K=>match vs with
  |v::vs=>deF h c v fun d=>deFs h (e::cs) vs fun ds=>K (d,ds)
  |_=>none
def zW1(v:VV):Bool:=zXw v||aggS v
def VV.blkS:VV→List Nat
 | .agg vs=>vs.flatMap fun v=>if zXw v then v.blk else []
 |v=>v.blk
def C.scalar:C→Bool
 | .list _=>false
 | .mix _ _=>false
 | .pair a b=>a.scalar&&b.scalar
 | .arr _ c=>c.scalar
 |_=>true
def oneV:List VV→VV
 |[v]=>v
 |vs=>.tuple vs
@[reducible] def SK.D:SK→Type
  | .val c=>El c
  | .slt c _ _=>List (El c)
  | .sref _ _ _=>Nat×Nat×Nat
def SK.put:(s:SK)→s.D→VV
 | .val c,d=>valV c d
 | .slt c tok full,d=>.sl c d tok full
 | .sref b ex c,d=>.sref b d.1 d.2.1 d.2.2 ex c
def SK.get:(s:SK)→VV→Option s.D
 | .val c,v=>deW c v
 | .slt c tok full,v=>match v with
  | .sl c' ds tok' full'=>if h:c'=c then(if(tok=none∨tok'=tok)∧(full=false∨full'=full)then some (h▸ds)else none)else none
  | .nsl=>if tok=none then some []else none
  |_=>none
 | .sref b ex c,v=>match v with
  | .sref b' off len cap ex' c'=>if b'=b∧ex'=ex∧c'=c then some (off,len,cap)else none
  |_=>none
def SK.getX:(s:SK)→VV→Option s.D
 | .val c,v=>match c with
  | .bool=>match v with
   | .bool b=>some b
   |_=>none
  | .int k=>match v with
   | .int k' n=>if k=k' then some n else none
   |_=>none
  | .str=>match v with
   | .str s=>some s
   |_=>none
  | .list c=>match v with
   | .sl c' ds none false=>if h:c'=c then some (h▸ds)else none
   |_=>none
  | .mix b c=>match v with
   | .mix b' c' d=>if h:b'=b∧c'=c then some (h.2▸d)else none
   | .sl c' ds none false=>if h:c'=c then some (Z.zJt (h▸ds))else none
   | .nsl=>some Z.xnil
   |_=>none
  |_=>none
 | .slt c tok full,v=>match v with
  | .sl c' ds tok' full'=>if h:c'=c then(if tok'=tok∧full'=full then some (h▸ds)else none)else none
  |_=>none
 | .sref b ex c,v=>match v with
  | .sref b' off len cap ex' c'=>if b'=b∧ex'=ex∧c'=c then some (off,len,cap)else none
  |_=>none
@[reducible] def SKs:List SK→Type
  |[]=>Unit
  |[s]=>s.D
  |s::u::l=>s.D×SKs (u::l)
def SKs.put:(l:List SK)→SKs l→List VV
 |[],_=>[]
 |[s],d=>[s.put d]
 |s::u::l,d=>s.put d.1::SKs.put (u::l) d.2
def SKs.getX:(l:List SK)→List VV→Option (SKs l)
 |[],vs=>match vs with
  |[]=>some ()
  |_=>none
 |[s],vs=>match vs with
  |[v]=>s.getX v
  |_=>none
 | s::u::l,vs=>match vs with
  |v::vs=>match s.getX v,SKs.getX (u::l) vs with
   |some d,some ds=>some (d,ds)
   |_,_=>none
  |_=>none
@[reducible] def Item.D:Item→Type
  | .slot _ s=>s.D
  | .cells _ l=>SKs l
  | .vec _ c=>List (El c)
  | .rows _ c=>List (List (El c))
  | .map _ _ _=>List (Int×Int)
@[reducible] def Items:List Item→Type
  |[]=>Unit
  |[x]=>x.D
  |x::y::xs=>x.D×Items (y::xs)
def Item.put:(x:Item)→x.D→List VV×zQa→List VV×zQa
 | .slot i s,d,p=>(p.1.set i (s.put d),p.2)
 | .cells b l,d,p=>(p.1,p.2.set b (.cells (SKs.put l d)))
 | .vec b c,d,p=>(p.1,p.2.set b (.vec c d))
 | .rows b c,d,p=>(p.1,p.2.set b (.rows c d))
 | .map b k1 k2,d,p=>(p.1,p.2.set b (.map k1 k2 d))
def Item.get:(x:Item)→List VV→zQa→Option x.D
 | .slot i s,t,h=>match t[i]? with
  |some v=>s.get v
  |none=>none
 | .cells b l,t,h=>match h[b]? with
  |some (.cells vs)=>SKs.getX l vs
  |_=>none
 | .vec b c,t,h=>match h[b]? with
  |some (.vec c' ds)=>if hc:c'=c then some (hc▸ds)else none
  |_=>none
 | .rows b c,t,h=>match h[b]? with
  |some (.rows c' ds)=>if hc:c'=c then some (hc▸ds)else none
  |_=>none
 | .map b k1 k2,t,h=>match h[b]? with
  |some (.map j1 j2 es)=>if j1=k1∧j2=k2 then some es else none
  |_=>none
def Items.put:(xs:List Item)→Items xs→List VV×zQa→List VV×zQa
 |[],_,p=>p
 |[x],d,p=>x.put d p
 |x::y::xs,d,p=>Items.put (y::xs) d.2 (x.put d.1 p)
def Items.get:(xs:List Item)→List VV→zQa→Option (Items xs)
 |[],_,_=>some ()
 |[x],t,h=>x.get t h
 |x::y::xs,t,h=>match x.get t h,Items.get (y::xs) t h with
  |some d,some ds=>some (d,ds)
  |_,_=>none
def VV.ptrTo(k:Nat):VV→Bool
 | .ptr b _=>b==k
 |_=>false
def xZt(t:List VV)(h:zQa)(k:Nat):Bool:=
 t.any fun v=>match v with
  | .ptr b _=>b==k
  | .func _ _ ys=>ys.any (VV.ptrTo k)
  | .yield l=>match h[l]? with
   |some (.loop _ ts _ _ _ _ _)=>ts.any (VV.ptrTo k)
   |_=>false
  |_=>false
def tokC(k j:Nat)(c:C)(t:List VV)(h:zQa)(m:List Nat)(K:zQa→List Nat→Option β)(P:Option β):Option β:=
 match h[k]? with
 |some (.cells vs)=>if xZt t h k=true then(match vs[j]? with
  |some .nsl=>K ((h++[VObj.tail 0]).set k (.cells (vs.set j (.sl c [] (some h.length) false)))) (k::m)
  |some (.sl c' ds none true)=>if Z.EqN (Z.len ds) 0 then K ((h++[VObj.tail (Z.len ds)]).set k (.cells (vs.set j (.sl c' ds (some h.length) false)))) (k::m)else none
  |some (.sl _ _ (some _) false)=>K h m
  |some (.sref b off len cap ex c')=>if(zKh h b&&b !=k)=true then(if Z.EqN len 0 then K ((h.set b .dead++[VObj.tail 0]).set k (.cells (vs.set j (.sl c' [] (some h.length) false)))) (k::b::m)else none)else P
  |_=>P)else P
 |_=>P
def vKb(k j:Nat)(c:C)(t:List VV)(h:zQa)(m:List Nat)(K:zQa→List Nat→Option β)(P:Option β):Option β:=
 match h[k]? with
 |some (.cells vs)=>if xZt t h k=true then(match vs[j]? with
  |some .nsl=>K (h.set k (.cells (vs.set j (.sl c [] none false)))) (k::m)
  |some (.sl _ _ none false)=>K h m
  |_=>P)else P
 |_=>P
def frzC(k j:Nat)(t:List VV)(h:zQa)(m:List Nat)(K:zQa→List Nat→Option β):Option β:=
 match h[k]? with
 | some (.cells vs)=>if xZt t h k=true then(match vs[j]? with
  |some (.sref b off len cap ex c)=>if b≠k then(match h[b]? with
   | some (.vec c' ds)=>if c'=c then(if Z.Le (Z.addN off len) (Z.len ds)then
     K ((h.set b .dead).set k (.cells (vs.set j (.sl c' (Z.seg ds off len) none false)))) (k::b::m)else none)else none
   |_=>K h m)else K h m
  |_=>K h m)else K h m
 |_=>K h m
def vJd(t:List VV)(g:zQa)(i:Nat):Option VV:=
 if 3000000≤i then(match t[(i-3000000)/1000]? with
  |some (.ptr b _)=>(match g[b]? with
   |some (.cells vs)=>vs[(i-3000000) % 1000]?
   |_=>none)
  |_=>none)else if 2000000≤i then(match g[(i-2000000)/1000]? with
  |some (.cells vs)=>vs[(i-2000000) % 1000]?
  |_=>none)else t[i]?
def relB(t:List VV)(h:zQa)(k:Nat):Nat:=if 2000000≤k then(match vJd t h k with
 |some v=>v.blk.headD 0
 |none=>0)else if 1000000≤k then(match t[k-1000000]? with
 |some v=>v.blk.headD 0
 |none=>0)else k
def relN(t:List VV)(h:zQa)(k:Nat):Nat:=if 900000000≤k then h.length-(k-900000000)else if 10000000≤k then relB t h (k % 10000000)-k/10000000 else relB t h k
@[reducible] def C.ren(f:Nat→Nat):C→C
  | .list c=>.list (c.ren f)
  | .pair a b=>.pair (a.ren f) (b.ren f)
  | .arr n c=>.arr n (c.ren f)
  | .mix b c=>.mix (f b) (c.ren f)
  |c=>c
def zWo(t:List VV)(h:zQa)(c:C):C:=c.ren fun b=>if 900000000≤b then h.length-(b-900000000)else relN t h b
def injO:(c c2:C)→El c→Option (El c2)
 | .pair a b,c2,d=>match c2 with
  | .pair a2 b2=>match injO a a2 d.1,injO b b2 d.2 with
   |some x,some y=>some (x,y)
   |_,_=>none
  |_=>none
 | .list a,c2,d=>match c2 with
  | .mix b a2=>if h:a=a2 then some (Z.zJt (h▸d:List (El a2)))else none
  | .list a2=>if h:a=a2 then some (h▸d:List (El a2))else none
  |_=>none
 | .bool,c2,d=>if h: .bool=c2 then some (h▸d)else none
 | .int k,c2,d=>if h: .int k=c2 then some (h▸d)else none
 | .str,c2,d=>if h: .str=c2 then some (h▸d)else none
 | .unit,c2,d=>if h: .unit=c2 then some (h▸d)else none
 | .arr n c,c2,d=>if h: .arr n c=c2 then some (h▸d)else none
 | .mix b c,c2,d=>if h: .mix b c=c2 then some (h▸d)else none
def xJ9(c c2:C)(ds:List (El c))(K:List (El c2)→Option β):Option β:=
 match decEq c c2 with
 |isTrue h=>K (h▸ds)
 |isFalse _=>Z.bind (Z.mapO (fun e=>injO c c2 e) ds) K
def vJo(k j:Nat)(c0:C)(t:List VV)(h:zQa)(m:List Nat)(K:zQa→List Nat→Option β)(P:Option β):Option β:=
 match h[k]? with
 | some (.cells vs)=>if xZt t h k=true then(match vs[j]? with
  |some .nsl=>K ((h++[VObj.rows (zWo t h c0) [[]]]).set k (.cells (vs.set j (.mix h.length (zWo t h c0) (Z.xnew 0 0))))) (k::m)
  |some (.mix _ _ _)=>K h m
  | some (.sl c1 ds none false)=>if(zWo t h c0).cells=c1.cells then xJ9 c1 (zWo t h c0) ds fun zs=>
    K ((h++[VObj.rows (zWo t h c0) []]).set k (.cells (vs.set j (.mix h.length (zWo t h c0) (Z.zJt zs))))) (k::m)else P
  |some (.sref b off len cap ex c1)=>if b≠k then(match h[b]? with
   | some (.vec c' ds)=>if c'=c1∧(zWo t h c0).cells=c1.cells then(if Z.Le (Z.addN off len) (Z.len ds)then xJ9 c' (zWo t h c0) (Z.seg ds off len) fun zs=>
     K ((h.set b .dead++[VObj.rows (zWo t h c0) [zs]]).set k (.cells (vs.set j (.mix h.length (zWo t h c0) (Z.xnew 0 len))))) (k::b::m)else none)else P
   |_=>P)else P
  |_=>P)else P
 |_=>P
def recV(b:Nat)(c2:C)(v:VV):VV:=match v with
 | .sref b' off len cap ex c=>if b'=b∧c.cells=c2.cells then .sref b' off len cap ex c2 else v
 |v=>v
def recO(b:Nat)(c2:C)(o:VObj):VObj:=match o with
 | .cells vs=>.cells (vs.map (recV b c2))
 |o=>o
def yZw(b:Nat)(v:VV):Bool:=match v with
 | .sref b' _ _ _ _ _=>decide (b'=b)
 |_=>false
def wQ3(b:Nat)(h:zQa):List Nat:=(List.range h.length).filter fun k=>match h[k]? with
 |some (.cells vs)=>vs.any (yZw b)
 |_=>false
def vXo:Nat→(Nat→Option β)→Option β
 |0,K=>K 0
 |n+1,K=>vXo n fun m=>K (m+1)
def yZl:C→(C→Option β)→Option β
 | .pair a b,K=>yZl a fun a=>yZl b fun b=>K (.pair a b)
 | .list a,K=>yZl a fun a=>K (.list a)
 | .mix n a,K=>vXo n fun n=>yZl a fun a=>K (.mix n a)
 |c,K=>K c
theorem wQ6:∀(n:Nat) (K:Nat→Option β),vXo n K=K n
 |0,_=>rfl
 |n+1,K=>wQ6 n _
theorem yQk:∀(c:C) (K:C→Option β),yZl c K=K c
 | .pair a b,K=>by simp only[yZl,yQk a,yQk b]
 | .list a,K=>by simp only[yZl,yQk a]
 | .mix n a,K=>by simp only[yZl,wQ6 n,yQk a]
 | .bool,_=>rfl
 | .int _,_=>rfl
 | .str,_=>rfl
 | .unit,_=>rfl
 | .arr _ _,_=>rfl
def recS(i:Nat)(c0:C)(t:List VV)(h:zQa)(m:List Nat)(K:zQa→List Nat→Option β)(P:Option β):Option β:=
 match t[i]? with
 |some (.sref b _ _ _ _ _)=>yZl (zWo t h c0) fun c2=>(match h[b]? with
  | some (.vec c' ds)=>if c'=c2 then K h m else if c2.cells=c'.cells then xJ9 c' c2 ds fun zs=>
    K ((h.map (recO b c2)).set b (.vec c2 zs)) (b::(wQ3 b h++m))else P
  |_=>P)
 |some (.sl _ _ _ _)=>K h m
 |_=>P
def tokW(i:Nat)(c:C)(t:List VV)(h:zQa)(m:List Nat)(K:zQa→List Nat→Option β)(P:Option β):Option β:=
 if 7000000≤i then vJo ((i-7000000)/1000) ((i-7000000) % 1000) c t h m K P else if 6000000≤i then frzC ((i-6000000)/1000) ((i-6000000) % 1000) t h m K else if 5500000≤i then recS (i-5500000) c t h m K P else if 4000000≤i then vKb ((i-4000000)/1000) ((i-4000000) % 1000) c t h m K P else tokC ((i-2000000)/1000) ((i-2000000) % 1000) c t h m K P
def inCode:C→Option (Nat×C)
 | .arr 0 (.mix q c)=>some (q,c)
 |_=>none
def reCode:C→Option C
 | .arr 1 c=>some c
 |_=>none
def zXp(id:Nat):List (Nat×C)→List VV→zQa→List Nat→(List VV→zQa→List Nat→Option β)→Option β
 |[],t,h,m,K=>K t h m
 | (i,c)::l,t,h,m,K=>if 9000000≤i then zXp id l t (h++[.rows (zWo t h c) []]) m K else if 8000000≤i then(match t[i-8000000]? with
  | some .nsl=>(match inCode (zWo t h c)with
   |some (q,c2)=>(match h[q]? with
    |some (.rows c3 dss)=>if c3=c2 then zXp id l (t.set (i-8000000) (.mix q c3 (Z.xnew (Z.len dss) 0))) (h.set q (.rows c3 (Z.app dss [[]]))) (q::m) K else Z.zZ7 (id*8+1) t h m
    |_=>Z.zZ7 (id*8+1) t h m)
   |none=>zXp id l (t.set (i-8000000) (.mix h.length (zWo t h c) (Z.xnew 0 0))) (h++[.rows (zWo t h c) [[]]]) m K)
  |some (.mix _ _ _)=>zXp id l t h m K
  | some (.sref b off len cap ex c1)=>match reCode (zWo t h c)with
   |some c0=>yZl c0 fun c2=>(match h[b]? with
    | some (.vec c' ds)=>if c'=c2∧c1=c2 then zXp id l (t.set (i-8000000) (.sref b off len cap ex c1)) h m K else if c2.cells=c'.cells∧c1.cells=c2.cells then xJ9 c' c2 ds fun zs=>
      zXp id l (t.set (i-8000000) (.sref b off len cap ex c2)) ((h.map (recO b c2)).set b (.vec c2 zs)) (b::(wQ3 b h++m)) K else Z.zZ7 (id*8+1) t h m
    |_=>Z.zZ7 (id*8+1) t h m)
   |none=>(match h[b]? with
   | some (.vec c' ds)=>if c'=c1∧(zWo t h c).cells=c1.cells then(if Z.Le (Z.addN off len) (Z.len ds)then xJ9 c' (zWo t h c) (Z.seg ds off len) fun zs=>
     zXp id l (t.set (i-8000000) (.mix h.length (zWo t h c) (Z.xnew 0 len))) (h.set b .dead++[.rows (zWo t h c) [zs]]) (b::m) K else none)else Z.zZ7 (id*8+1) t h m
   |_=>Z.zZ7 (id*8+1) t h m)
  |some (.sl c' ds none false)=>(match decEq c' (zWo t h c)with
   |isTrue _=>zXp id l (t.set (i-8000000) (.mix h.length c' (Z.zJt ds))) (h++[.rows c' []]) m K
   |isFalse _=>Z.zZ7 (id*8+1) t h m)
  |_=>Z.zZ7 (id*8+1) t h m)else if 2000000≤i then tokW i c t h m (fun h m=>zXp id l t h m K) (Z.zZ7 (id*8+1) t h m)else match t[i]? with
  |some .nsl=>zXp id l (t.set i (.sl c [] (some h.length) false)) (h++[.tail 0]) m K
  |some (.sl c' ds none true)=>if Z.EqN (Z.len ds) 0 then zXp id l (t.set i (.sl c' ds (some h.length) false)) (h++[.tail (Z.len ds)]) m K else none
  |some (.sl _ _ (some _) false)=>zXp id l t h m K
  |some (.sref b off len cap ex c')=>if zKh h b=true then(if Z.EqN len 0 then zXp id l (t.set i (.sl c' [] (some h.length) false)) (h.set b .dead++[.tail 0]) (b::m) K else none)else Z.zZ7 (id*8+1) t h m
  |_=>Z.zZ7 (id*8+1) t h m
def zJb:List (Nat×Nat)→List VV→zQa→zQa→zQa
 |[],_,_,h=>h
 |(b,i)::l,t,g,h=>match vJd t g i with
  |some (.sl _ ds _ _)=>zJb l t g (h.set b (.tail (Z.len ds)))
  |_=>zJb l t g h
def yWl:List (Nat×Nat)→List VV→zQa→zQa→Option β→Option β
 |[],_,_,_,K=>K
 |(b,i)::l,t,g,h,K=>match vJd t g i,h[b]? with
  |some (.sl _ ds _ _),some (.tail u)=>if Z.EqN u (Z.len ds)then yWl l t g h K else none
  |_,_=>none
def zZ2:List Nat→List VV→List VV
 |[],t=>t
 |i::l,t=>zZ2 l (t.set i .junk)
def C.inB(n:Nat):C→Bool
 | .list c=>c.inB n
 | .pair a b=>a.inB n&&b.inB n
 | .arr _ c=>c.inB n
 | .mix b c=>decide (b<n)&&c.inB n
 |_=>true
mutual
def VV.inB(n:Nat):VV→Bool
 | .ptr b _=>decide (b<n)
 | .ptrE b _ _=>decide (b<n)
 | .ptrF b _ _ _=>decide (b<n)
 | .rop v=>v.inB n
 | .sl c _ tok _=>c.inB n&&match tok with
  |some k=>decide (k<n)
  |none=>true
 | .av _ c _=>c.inB n
 | .mix b c _=>decide (b<n)&&c.inB n
 | .xptr b _ _ _ _=>decide (b<n)
 | .sref b _ _ _ _ _=>decide (b<n)
 | .func _ xs ys=>VV.inBs n xs&&VV.inBs n ys
 | .yield l=>decide (l<n)
 | .agg vs=>VV.inBs n vs
 | .tuple vs=>VV.inBs n vs
 | .map b=>decide (b<n)
 | .ifc _ c=>zWc c
 |_=>true
def VV.inBs(n:Nat):List VV→Bool
 |[]=>true
 |v::vs=>v.inB n&&VV.inBs n vs
end
def VObj.inB(n:Nat):VObj→Bool
 | .cells vs=>VV.inBs n vs
 | .vec c _=>c.inB n
 | .rows c _=>c.inB n
 | .loop _ ts _ _ _ _ _=>VV.inBs n ts
 |_=>true
def Item.slots:Item→List Nat
 | .slot i _=>[i]
 |_=>[]
def Item.blks:Item→List Nat
 | .cells b _=>[b]
 | .vec b _=>[b]
 | .rows b _=>[b]
 | .map b _ _=>[b]
 |_=>[]
def LSpec.slots(s:LSpec):List Nat:=s.items.flatMap Item.slots++s.junk
def LSpec.blks(s:LSpec):List Nat:=s.items.flatMap Item.blks++s.tails.map (·.1)
def C.rel(t:List VV)(h:zQa):C→C
 | .list c=>.list (c.rel t h)
 | .pair a b=>.pair (a.rel t h) (b.rel t h)
 | .arr n c=>.arr n (c.rel t h)
 | .mix b c=>.mix (relN t h b) (c.rel t h)
 |c=>c
def SK.rel(t:List VV)(h:zQa):SK→SK
 | .val c=>.val (c.rel t h)
 | .slt c tok full=>.slt c (match tok with
  |some k=>some (relN t h k)
  |none=>none) full
 | .sref b ex c=>.sref (relN t h b) ex (c.rel t h)
def Item.rel(t:List VV)(h:zQa):Item→Item
 | .slot i s=>.slot i (s.rel t h)
 | .cells b l=>.cells (relN t h b) (l.map (SK.rel t h))
 | .vec b c=>.vec (relN t h b) (c.rel t h)
 | .rows b c=>.rows (relN t h b) (c.rel t h)
 | .map b k1 k2=>.map (relN t h b) k1 k2
def hasB(t:List VV)(h:zQa)(k:Nat):Bool:=if 2000000≤k then(match vJd t h k with
 |some v=>match v.blk with
  |[]=>false
  |_::_=>true
 |none=>false)else if 1000000≤k then(match t[k-1000000]? with
 |some v=>match v.blk with
  |[]=>false
  |_::_=>true
 |none=>false)else true
def hasN(t:List VV)(h:zQa)(k:Nat):Bool:=hasB t h (if 10000000≤k then k % 10000000 else k)
def Item.has(t:List VV)(h:zQa):Item→Bool
 | .slot _ _=>true
 | .cells b _=>hasN t h b
 | .vec b _=>hasN t h b
 | .rows b _=>hasN t h b
 | .map b _ _=>hasN t h b
def hasI(t:List VV)(h:zQa):List Item→List Item
 |[]=>[]
 |i::l=>match i.has t h with
  |true=>i::hasI t h l
  |false=>hasI t h l
def LSpec.rel(t:List VV)(h:zQa)(s:LSpec):LSpec:={s with items:=(hasI t h s.items).map (Item.rel t h),tails:=s.tails.map fun p=>(relN t h p.1,p.2)}
def LSpec.pre(s:LSpec)(t:List VV)(h:zQa)(d:Items s.items):List VV×zQa:=Items.put s.items d (zZ2 s.junk t,h)
def LSpec.head(s:LSpec)(t:List VV)(h:zQa)(d:Items s.items):List VV×zQa:=
 ((s.pre t h d).1,zJb s.tails (s.pre t h d).1 (s.pre t h d).2 (s.pre t h d).2)
def nlOf(nl:List Nat)(id:Nat):Nat:=if nl.contains (1000000000+id)then 2 else if nl.contains (2000000000+id)then 3 else if nl.contains (3000000000+id)then 4 else if nl.contains (4000000000+id)then 5 else if nl.contains (5000000000+id)then 6 else if nl.contains (6000000000+id)then 7 else if nl.contains (8000000000+id)then 8 else if nl.contains (9000000000+id)then 9 else if nl.contains (11000000000+id)then 11 else if nl.contains (12000000000+id)then 12 else if nl.contains (13000000000+id)then 13 else if nl.contains id then 1 else 0
def yJt:Nat→Nat
 |0=>1
 |1=>0
 |2=>2
 |4=>4
 |5=>1
 |6=>1
 |7=>1
 |8=>1
 |9=>5
 |11=>0
 |12=>1
 |_=>3
def toY(nl:List Nat):X→List LSpec→Y×List LSpec
 | .skip,l=>(.skip,l)
 | .region id ops draw plan,l=>match l with
  |[]=>(.region id ops draw plan (nlOf nl id),[])
  | s::l'=>match decide (5000000≤s.id)with
   |true=>(match s.known with
    |true=>.join s (.region id ops draw plan (nlOf nl id))
    |false=>.region id ops draw plan (nlOf nl id),l')
   |false=>(.region id ops draw plan (nlOf nl id),s::l')
 | .seq a b,l=>let p:=toY nl a l;let q:=toY nl b p.2;(.seq p.1 q.1,q.2)
 | .cond c a b,l=>match l with
  |[]=>let p:=toY nl a l;let q:=toY nl b p.2;(.cond c p.1 q.1,q.2)
  | s::l'=>match decide (5000000≤s.id)with
   |true=>let p:=toY nl a l';let q:=toY nl b p.2;(match s.known with
    |true=>.join s (.cond c p.1 q.1)
    |false=>.cond c p.1 q.1,q.2)
   |false=>let p:=toY nl a l;let q:=toY nl b p.2;(.cond c p.1 q.1,q.2)
 | .block id b,l=>let p:=toY nl b l;(.block id p.1,p.2)
 | .loop b,l=>let p:=toY nl b l.tail;(.loop (l.headD default) p.1,p.2)
 | .exit id,l=>(.exit id,l)
 | .scope b,l=>let p:=toY nl b l;(.scope p.1,p.2)
 | .label i,l=>(.label i,l)
 | .goto i,l=>(.goto i,l)
 | .ret,l=>(.ret,l)
 | .rangeFunc g ps a b,l=>let p:=toY nl a l;let q:=toY nl b p.2;(.rangeFunc g ps p.1 q.1,q.2)
theorem toY_x(nl:List Nat):∀(x:X) (l:List LSpec),(toY nl x l).1.x=x:=by
 intro x;induction x with
 |seq a b iha ihb=>intro l;simp[toY,Y.x,iha,ihb]
 | region id ops draw plan=>
  intro l;simp only[toY];split
  ·rfl
  ·split
   ·simp only[]
    split<;>rfl
   ·rfl
 | cond c a b iha ihb=>
  intro l;simp only[toY];split
  ·simp[Y.x,iha,ihb]
  ·split
   ·simp only[]
    split<;>simp[Y.x,iha,ihb]
   ·simp[Y.x,iha,ihb]
 |block id b ih=>intro l;simp[toY,Y.x,ih]
 |loop b ih=>intro l;simp[toY,Y.x,ih]
 |scope b ih=>intro l;simp[toY,Y.x,ih]
 |rangeFunc g ps a b iha ihb=>intro l;simp[toY,Y.x,iha,ihb]
 |_=>intro l;rfl
def zW5(ops:Array Oper):List Nat:=ops.toList.flatMap fun o=>(match o.dst with|some d=>[d]|none=>[])
def LSpec.wKb(sp:LSpec):List Nat:=sp.toks.filterMap fun p=>if 8000000≤p.1&&p.1<9000000 then some (p.1-8000000)else none
def Y.writes:Y→List Nat
 | .region _ ops _ _ _=>zW5 ops
 | .seq a b=>a.writes++b.writes
 | .cond _ a b=>a.writes++b.writes
 | .join _ b=>b.writes
 | .block _ b=>b.writes
 | .loop sp b=>b.writes++sp.wKb
 | .scope b=>b.writes
 |_=>[]
structure YFunc where
 ntmps:Nat
 results:List ResultVar
 body:Y
 frz:Bool:=false
 lay:Bool:=false
 layE:Bool:=false
 layM:Bool:=false
inductive OC where
 |plain (c:C)
 |own (c:C)
 |pair (a b:OC)
@[reducible] def OC.code:OC→C
  | .plain c=>c
  | .own c=>.list c
  | .pair a b=>.pair a.code b.code
def OC.free:OC→Bool
 | .plain c=>c.scalar
 | .own c=>c.scalar
 | .pair a b=>a.free&&b.free
@[reducible] def zZl:List OC→List C
  |[]=>[]
  |o::os=>o.code::zZl os
def OC.xW8:(o:OC)→El o.code→Nat→(List VV→List VObj→Option β)→Option β
 | .plain c,d,n,K=>K (valV c d).flat []
 | .own c,d,n,K=>if Z.EqN (Z.len d) 0 then K [.sl c d none false] []else K [.sref n 0 (Z.len d) (Z.len d) false c] [.vec c d]
 | .pair a b,d,n,K=>a.xW8 d.1 n fun va oa=>b.xW8 d.2 (n+oa.length) fun vb ob=>K (va++vb) (oa++ob)
def OC.valK:(o:OC)→El o.code→Nat→(VV→List VObj→Option β)→Option β
 | .plain c,d,n,K=>K (valV c d) []
 | .own c,d,n,K=>if Z.EqN (Z.len d) 0 then K (.sl c d none false) []else K (.sref n 0 (Z.len d) (Z.len d) false c) [.vec c d]
 | .pair a b,d,n,K=>a.xW8 d.1 n fun va oa=>b.xW8 d.2 (n+oa.length) fun vb ob=>K (.agg (va++vb)) (oa++ob)
def wJ9:(os:List OC)→Els (zZl os)→Nat→(List VV→List VObj→Option β)→Option β
 |[],_,n,K=>K [] []
 |[o],d,n,K=>o.valK d n fun v l=>K [v] l
 |o::p::os,d,n,K=>o.valK d.1 n fun v l=>wJ9 (p::os) d.2 (n+l.length) fun vs l'=>K (v::vs) (l++l')
structure OFn where
 args:List C
 ores:List OC
 fn:Els args→Option (Els (zZl ores))
def OFn.pfn(o:OFn):PFn:={args:=o.args,res:=zZl o.ores,fn:=o.fn}
def OC.outK:(o:OC)→List VV→zQa→(El o.code→List Nat→List Nat→Option β)→Option β
 | .plain c,vs,h,K=>match c.agg with
  |false=>match vs with
   |[v]=>if zJk v=true then none else deF h c v fun d=>K d [] (if zW1 v then v.blkS else [])
   |_=>none
  |true=>match deWs c vs with
   |some d=>K d [] []
   |none=>none
 | .own c,vs,h,K=>match vs with
  |[.sref b off len cap ex c']=>match h[b]? with
   |some (.vec c'' ds)=>if c'=c then(if hc:c''=c then(if Z.Le (Z.addN off len) (Z.len ds)then K (Z.seg (hc▸ds:List (El c)) off len) [b] []else none)else none)else none
   |_=>none
  |[.nsl]=>K ([]:List (El c)) [] []
  |[.sl c' ds _ _]=>if hc:c'=c then(if Z.EqN (Z.len ds) 0 then K (hc▸ds:List (El c)) [] []else none)else none
  | [.mix b c' d]=>match h[b]? with
   | some (.rows c'' dss)=>if hc':c'=c then(if hc:c''=c then(if Z.XW (hc▸dss:List (List (El c))) (hc'▸d:MixE (El c))then
     Z.bnd (Z.xget (hc▸dss:List (List (El c))) (hc'▸d:MixE (El c))) fun x=>K x [b] []else none)else none)else none
   |_=>none
  |_=>none
 | .pair a b,vs,h,K=>a.outK (vs.take a.code.cells) h fun x X B=>b.outK (vs.drop a.code.cells) h fun y Y D=>K (x,y) (X++Y) (B++D)
def OC.outV(o:OC)(v:VV)(h:zQa)(K:El o.code→List Nat→List Nat→Option β):Option β:=
 match o,K with
 | .plain c,K=>if zJk v=true then none else deF h c v fun d=>K d [] (if zW1 v then v.blkS else [])
 | .own c,K=>(OC.own c).outK [v] h K
 | .pair a b,K=>match v with
  | .agg vs=>(OC.pair a b).outK vs h K
  |_=>none
def wQh:(os:List OC)→List VV→zQa→(Els (zZl os)→List Nat→List Nat→Option β)→Option β
 |[],vs,h,K=>match vs with
  |[]=>K () [] []
  |_=>none
 |[o],vs,h,K=>match vs with
  |[v]=>o.outV v h K
  |_=>none
 |o::p::os,vs,h,K=>match vs with
  |v::vs=>o.outV v h fun d X B=>wQh (p::os) vs h fun ds Y D=>K (d,ds) (X++Y) (B++D)
  |_=>none
def wZg:List Nat→Bool
 |[]=>true
 |x::l=>!l.contains x&&wZg l
def wQg:(os:List OC)→VV→zQa→(Els (zZl os)→Option β)→Option β
 |[],v,h,K=>match v with
  | .tuple vs=>wQh [] vs h fun d X B=>if(wZg X&&X.all fun b=>!B.contains b)=true then K d else none
  |_=>none
 |[o],v,h,K=>wQh [o] [v] h fun d X B=>if(wZg X&&X.all fun b=>!B.contains b)=true then K d else none
 |o::p::os,v,h,K=>match v with
  | .tuple vs=>wQh (o::p::os) vs h fun d X B=>if(wZg X&&X.all fun b=>!B.contains b)=true then K d else none
  |_=>none
def vKj(h:zQa)(k:Nat)(c':C)(ds:List (El c'))(c:C)(K:List (El c)→Option β):Option β:=
 match h[k]? with
 |some (.tail u)=>if hc:c'=c then(if Z.EqN u (Z.len ds)then K (hc▸ds:List (El c))else none)else none
 |_=>none
def outT(os:List OC)(v:VV)(h:zQa)(K:Els (zZl os)→Option β):Option β:=
 match os,K with
 |[.own c],K=>match v with
  | .sl c' ds (some k) full=>if c.scalar=true then vKj h k c' ds c K else none
  |v=>wQg [.own c] v h K
 |[.own c, .plain p],K=>match v with
  | .tuple [.sl c' ds (some k) full,v2]=>if(c.scalar&&p.scalar)=true then vKj h k c' ds c fun ds=>deF h p v2 fun d2=>K (ds,d2)else none
  |v=>wQg [.own c, .plain p] v h K
 |os,K=>wQg os v h K
theorem uWi{A A' B B':Type}(h:A'=A)(k:B'=B):(A'×B')=(A×B):=by rw[h,k]
theorem zKg(f:Nat→Nat):∀c:C,El (c.ren f)=El c
 | .bool=>rfl
 | .int _=>rfl
 | .str=>rfl
 | .list c=>Kr List (zKg f c)
 | .unit=>rfl
 | .pair a b=>uWi (zKg f a) (zKg f b)
 | .arr _ c=>Kr List (zKg f c)
 | .mix _ c=>Kr MixE (zKg f c)
@[reducible] def renD(f:Nat→Nat)(c:C)(d:El c):El (c.ren f):=cast (zKg f c).symm d
@[reducible] def renB(f:Nat→Nat)(c:C)(d:El (c.ren f)):El c:=cast (zKg f c) d
def C.q2:C→Bool
 | .bool=>true
 | .int _=>true
 | .str=>true
 | .unit=>true
 | .pair a b=>a.q2&&b.q2
 | .mix b c=>c.pl&&(b==2)
 |_=>false
structure QFn where
 elt:C
 qc:C
 args:List C
 fn:Nat→List (List (El qc))→List (El elt)→Els args→List (El elt)→Option (List (List (El qc))×List (El elt))
 fn0:List (List (El qc))→Els args→List (El elt)→Option (List (List (El qc))×List (El elt))
def C.atQ:C→Option Nat
 | .mix q _=>some q
 | .pair a b=>match a.atQ with
  |some q=>some q
  |none=>b.atQ
 |_=>none
@[reducible] def renL(f:Nat→Nat)(c:C)(ds:List (El (c.ren f))):List (El c):=cast (Kr List (zKg f c)) ds
@[reducible] def renK(f:Nat→Nat)(c:C)(ds:List (El c)):List (El (c.ren f)):=cast (Kr List (zKg f c)).symm ds
theorem yZn(f:Nat→Nat)(c:C):List (List (El (c.ren f)))=List (List (El c)):=Kr (fun α=>List (List α)) (zKg f c)
@[reducible] def C.ll(c:C):C:=.list (.list c)
@[reducible] def yYy:List C→List C
  |[]=>[]
  |c::cs=>c.ll::yYy cs
def valR(f:Nat→Nat):(cs:List C)→Els cs→List VV
 |[],_=>[]
 |[c],d=>[valV (c.ren f) (renD f c d)]
 |c::e::cs,d=>valV (c.ren f) (renD f c d.1)::valR f (e::cs) d.2
def yZc(f:Nat→Nat):(cs:List C)→Els (yYy cs)→List VObj
 |[],_=>[]
 |[c],d=>[.rows (c.ren f) (cast (yZn f c).symm d)]
 |c::e::cs,d=>.rows (c.ren f) (cast (yZn f c).symm d.1)::yZc f (e::cs) d.2
structure MFn where
 elt:C
 args:List C
 fn:Nat→List (El elt)→Els args→List (El elt)→Option (List (El elt))
 fn0:Els args→List (El elt)→Option (List (El elt))
structure RFn where
 args:List C
 objs:List C
 res:List C
 fn:Els args→Option (Els (yYy objs)×Els res)
def C.unif:C→C→List (Nat×Nat)→List (Nat×Nat)
 | .list a, .list b,l=>C.unif a b l
 | .pair a b, .pair c d,l=>C.unif b d (C.unif a c l)
 | .arr _ a, .arr _ b,l=>C.unif a b l
 | .mix i a, .mix b c,l=>C.unif a c (if l.any (fun p=>p.1==i)then l else(i,b)::l)
 |_,_,l=>l
mutual
def unifV:C→VV→List (Nat×Nat)→List (Nat×Nat)
 | .mix i a,v,l=>match v with
  | .mix b c _=>C.unif (.mix i a) (.mix b c) l
  |_=>l
 | .pair a b,v,l=>match v with
  | .agg vs=>uQb (.pair a b) vs l
  |_=>l
 |_,_,l=>l
def uQb:C→List VV→List (Nat×Nat)→List (Nat×Nat)
 | .pair a b,vs,l=>uQb b (vs.drop a.cells) (uQb a (vs.take a.cells) l)
 | .mix i a,vs,l=>match vs with
  |[.mix b c _]=>C.unif (.mix i a) (.mix b c) l
  |_=>l
 |_,_,l=>l
end
def vQf:List C→List VV→List (Nat×Nat)→List (Nat×Nat)
 |c::cs,v::vs,l=>vQf cs vs (unifV c v l)
 |_,_,l=>l
def foundAt(l:List (Nat×Nat))(n i:Nat):Nat:=match l.find? (fun p=>p.1==i)with
 |some p=>p.2
 |none=>n
def uQc(h:zQa):Nat→List C→Nat→List (Nat×Nat)→List (Nat×Nat)
 |_,[],_,l=>l
 |n,c::cs,i,l=>uQc h n cs (i+1) (match h[foundAt l n i]? with
  |some (.rows c' _)=>C.unif c c' l
  |_=>l)
def wYb{β:Type}(h:zQa)(f:Nat→Nat):(cs:List C)→Nat→(Els (yYy cs)→Option β)→Option β
 |[],i,K=>K ()
 |[c],i,K=>match h[f i]? with
  |some (.rows c' dss)=>if hc:c'=c.ren f then K (cast (yZn f c) (hc▸dss))else none
  |some _=>none
  |none=>K []
 |c::e::cs,i,K=>match h[f i]? with
  |some (.rows c' dss)=>if hc:c'=c.ren f then wYb h f (e::cs) (i+1) fun ds=>K (cast (yZn f c) (hc▸dss),ds)else none
  |some _=>none
  |none=>wYb h f (e::cs) (i+1) fun ds=>K (([]:List (List (El c))),ds)
def wYa{β:Type}(f:Nat→Nat):(cs:List C)→List VV→(Els cs→Option β)→Option β
 |[],vs,K=>match vs with
  |[]=>K ()
  |_=>none
 | [c],vs,K=>match vs with
  |[v]=>match deW (c.ren f) v with
   |some d=>K (renB f c d)
   |none=>none
  |_=>none
 | c::e::cs,vs,K=>match vs with
  |v::vs=>match deW (c.ren f) v with
   |some d=>wYa f (e::cs) vs fun ds=>K (renB f c d,ds)
   |none=>none
  |_=>none
def uQ3(n:Nat)(v:VV):Option (List VV):=
 match n with
 |1=>some [v]
 |_=>match v with
  | .tuple vs=>some vs
  |_=>none
def outRF{β:Type}(objs res:List C)(vs:List VV)(h:zQa)(f:Nat→Nat)(K:Els (yYy objs)×Els res→Option β):Option β:=
 if((objs.all (C.inB objs.length)&&res.all (C.inB objs.length))&&((List.range objs.length).all fun i=>(List.range objs.length).all fun j=>decide (i=j)||f i !=f j||decide (h.length≤f i)))=true then
  wYb h f objs 0 fun ds=>wYa f res vs fun rs=>K (ds,rs)
 else none
def outR{β:Type}(objs res:List C)(v:VV)(h:zQa)(K:Els (yYy objs)×Els res→Option β):Option β:=
 match uQ3 res.length v with
 |some vs=>outRF objs res vs h (foundAt (uQc h h.length objs 0 (vQf res vs [])) h.length) K
 |none=>none
structure VCfg where
 ty:Ty
 glob:Nat→Option VV
 pf:FuncId→Option PFn
 code:FuncId→Option YFunc
 own:FuncId→Bool:=fun _=>false
 opf:FuncId→Option OFn:=fun _=>none
 rpf:FuncId→Option RFn:=fun _=>none
 xpf:FuncId→Bool:=fun _=>false
 mpf:FuncId→Option MFn:=fun _=>none
 qpf:FuncId→Option QFn:=fun _=>none
abbrev KOut(β:Type):=Out→List VV→zQa→List Nat→Option β
abbrev KVal(β:Type):=VV→zQa→List Nat→Option β
abbrev xXk(β:Type):=Who→List VV→zQa→List Nat→KVal β→KVal β→Option β
def yW9:List Nat→zQa→zQa
 |[],h=>h
 |b::bs,h=>yW9 bs (h.set b .dead)
def zQz(args:List VV):List Nat:=args.flatMap fun v=>if zW1 v then v.blkS else []
def zYs(c:VCfg)(f:FuncId)(args:List VV):Bool:=
 match c.mpf f,c.opf f,c.rpf f,c.pf f with
 |none,none,none,some p=>!c.own f&&(args.all (fun v=>!zW1 v)||p.res.all C.scalar)
 |_,_,_,_=>false
def uWq(h:zQa):VV→Bool
 | .sref b _ _ _ _ _=>match h[b]? with
  |some (.cells vs)=>vs.any zXw
  |_=>false
 |_=>false
def deNl(h:zQa)(c:C):List VV→(List (El c)→Option β)→Option β
 |[],K=>K []
 |v::vs,K=>deF0 h c v fun d=>deNl h c vs fun ds=>K (d::ds)
def deN(h:zQa)(c:C)(v:VV)(K:El c→Option β):Option β:=
 match c,v,K with
 | .list c, .sref b off len _ _ c',K=>match h[b]? with
  |some (.cells vs)=>if c'=c then(if(c.isL&&c.pl)=true then(if off+len≤vs.length then deNl h c ((vs.drop off).take len) K else none)else none)else none
  |_=>none
 |_,_,_=>none
def wZi(h:zQa):(cs:List C)→List VV→(Els cs→Option β)→Option β
 |[],vs,K=>match vs with
  |[]=>K ()
  |_=>none
 |[c],vs,K=>match vs with
  |[v]=>if uWq h v=true then deN h c v K else deF h c v K
  |_=>none
 |c::e::cs,vs,K=>match vs with
  |v::vs=>if uWq h v=true then deN h c v fun d=>wZi h (e::cs) vs fun ds=>K (d,ds)else deF h c v fun d=>wZi h (e::cs) vs fun ds=>K (d,ds)
  |_=>none
def vZg(p:PFn)(args:List VV)(h:zQa)(m:List Nat)(K:KVal β):Option β:=
 if(p.res.all C.pl&&p.args.all C.pl)=false then none else if(p.res.all C.scalar&&args.any (uWq h))=true then wZi h p.args args fun d=>Z.bind (p.fn d) fun r=>K (oneV (zQ5 p.res r)) h m
 else if(args.all (fun v=>!zW1 v)||p.res.all C.scalar)=true then
  deFs h p.args args fun d=>Z.bind (p.fn d) fun r=>K (oneV (zQ5 p.res r)) h m
 else if args.any zJk=true then none else deFs h p.args args fun d=>Z.bind (p.fn d) fun r=>K (oneV (zQ5 p.res r)) (yW9 (zQz args) h) (zQz args++m)
def ownLen:(cs:List C)→Els cs→Option Nat
 |[.list _],d=>some (Z.len d)
 |_,_=>none
def uXr(o:OFn)(args:List VV)(h:zQa)(m:List Nat)(K:KVal β):Option β:=
 if(o.ores.all (fun x=>x.code.pl)&&o.args.all C.pl)=false then none else deFs h o.args args fun d=>Z.bind (o.fn d) fun r=>wJ9 o.ores r h.length fun vs os=>
  if(args.all (fun v=>!zW1 v)||o.ores.all OC.free)=true then K (oneV vs) (h++os) m else if args.any zJk=true then none else K (oneV vs) (yW9 (zQz args) h++os) (zQz args++m)
def C.names(q:Nat):C→Bool
 | .list c=>c.names q
 | .pair a b=>a.names q||b.names q
 | .arr _ c=>c.names q
 | .mix b c=>b==q||c.names q
 |_=>false
def VObj.names(q:Nat):VObj→Bool
 | .vec c _=>c.names q
 | .rows c _=>c.names q
 |_=>false
def yKb(h:zQa)(c:C):Option Nat:=(List.range h.length).find? fun q=>(match h[q]? with
 |some (.rows c' _)=>decide (c'=c)
 |_=>false)&&h.any (VObj.names q)
def OC.owns:OC→List C
 | .plain _=>[]
 | .own c=>[c]
 | .pair a b=>a.owns++b.owns
def vKl(h:zQa)(os:List OC):Bool:=os.any (fun o=>!o.owns.isEmpty)&&os.all fun o=>o.owns.all fun c=>(yKb h c).isSome
def OC.xW5(Qs:C→Option Nat):(o:OC)→El o.code→zQa→(List VV→zQa→Nat→Option β)→Option β
 | .plain c,d,h,K=>K (valV c d).flat h 0
 | .own c,d,h,K=>match Qs c with
  |some Q=>match h[Q]? with
   |some (.rows c' dss)=>if hc:c'=c then Z.bnd (Z.app (hc▸dss:List (List (El c))) [d]) fun zs=>K [.mix Q c (Z.xrow (Z.len dss) d)] (h.set Q (.rows c zs)) 1 else none
   |_=>none
  |none=>none
 | .pair a b,d,h,K=>a.xW5 Qs d.1 h fun va h i=>b.xW5 Qs d.2 h fun vb h j=>K (va++vb) h (i+j)
def OC.valS(Qs:C→Option Nat)(o:OC)(d:El o.code)(h:zQa)(K:VV→zQa→Nat→Option β):Option β:=
 match o,d,K with
 | .plain c,d,K=>K (valV c d) h 0
 | .own c,d,K=>(OC.own c).xW5 Qs d h fun vs h i=>match vs with
  |[v]=>K v h i
  |_=>none
 | .pair a b,d,K=>(OC.pair a b).xW5 Qs d h fun vs h i=>K (.agg vs) h i
def wXk(Qs:C→Option Nat):(os:List OC)→Els (zZl os)→zQa→(List VV→zQa→Nat→Option β)→Option β
 |[],_,h,K=>K [] h 0
 |[o],d,h,K=>o.valS Qs d h fun v h i=>K [v] h i
 |o::p::os,d,h,K=>o.valS Qs d.1 h fun v h i=>wXk Qs (p::os) d.2 h fun vs h j=>K (v::vs) h (i+j)
def uXp(o:OFn)(args:List VV)(h:zQa)(m:List Nat)(K:KVal β):Option β:=
 if(o.ores.all (fun x=>x.code.pl)&&o.args.all C.pl)=false then none else deFs h o.args args fun d=>Z.bind (o.fn d) fun r=>
  if o.ores.all OC.free=true then
   wXk (yKb h) o.ores r h fun vs h' k=>K (oneV vs) (h'++List.replicate k .dead) ((o.ores.flatMap OC.owns).filterMap (yKb h)++m)
  else if args.any zJk=true then none else
   wXk (yKb h) o.ores r (yW9 (zQz args) h) fun vs h' k=>K (oneV vs) (h'++List.replicate k .dead) ((o.ores.flatMap OC.owns).filterMap (yKb h)++(zQz args++m))
def uXq(o:RFn)(args:List VV)(h:zQa)(m:List Nat)(K:KVal β):Option β:=
 if(o.args.all C.pl&&!(args.any zJk))=false then none else deFs h o.args args fun d=>Z.bind (o.fn d) fun r=>
  K (oneV (valR (fun i=>h.length+i) o.res r.2)) (yW9 (zQz args) h++yZc (fun i=>h.length+i) o.objs r.1) (zQz args++m)
noncomputable def uXs(o:MFn)(args:List VV)(h:zQa)(m:List Nat)(K:KVal β):Option β:=
 match args with
 | .mix b c d::xs=>(match xs.getLast? with
  |some (.sref b2 off2 n2 cap2 ex2 c2)=>(match h[b]?,h[b2]? with
   | some (.rows c' dss),some (.vec c3 vs)=>if hcc:c=o.elt∧c'=o.elt∧c2=o.elt∧c3=o.elt∧(o.elt.pl&&o.args.all C.pl&&!(xs.dropLast.any zJk)&&!((zQz xs.dropLast).contains b)&&!((zQz xs.dropLast).contains b2))=true∧0<o.elt.cells then
     (if Z.XGr (hcc.2.1▸dss:List (List (El o.elt))) (hcc.1▸d:MixE (El o.elt))then(if Z.EqN (Z.len dss) 1 then(if Z.Le (Z.addN off2 n2) (Z.len vs)then
      deFs h o.args xs.dropLast fun ds=>Z.bind (Z.yXm (Z.xlen d) (fun k=>o.fn k (Z.xget (hcc.2.1▸dss:List (List (El o.elt))) (hcc.1▸d:MixE (El o.elt))) ds (Z.seg (hcc.2.2.2.1▸vs:List (El o.elt)) off2 n2)) (o.fn0 ds (Z.seg (hcc.2.2.2.1▸vs:List (El o.elt)) off2 n2))) fun l=>
       if Z.Lt (Z.xlen d) (Z.len l)then K (.mix b o.elt (Z.xnew 0 (Z.len l))) (((yW9 (zQz xs.dropLast) h).set b2 .dead).set b (.rows o.elt [l])) (b::b2::(zQz xs.dropLast++m))else none
      else none)else none)else none)else none
   |_,_=>none)
  |_=>none)
 |_=>none
def rowAt{β:Type}(h:zQa)(c:C)(b off n:Nat)(c2:C)(K:List (El c)→Option β):Option β:=
 match h[b]? with
 |some (.vec c3 vs)=>if hcc:c2=c∧c3=c then(if Z.Le (Z.addN off n) (Z.len vs)then K (Z.seg (hcc.2▸vs:List (El c)) off n)else none)else none
 |some (.cells vs)=>if c2.cells=c.cells then(if off*c.cells+n*c.cells≤vs.length then(match deVs c n ((vs.drop (off*c.cells)).take (n*c.cells))with
  |some ds=>K ds
  |none=>none)else none)else none
 |_=>none
noncomputable def vZi(o:QFn)(args:List VV)(h:zQa)(m:List Nat)(K:KVal β):Option β:=
 match args with
 | .mix b c d::xs=>(match xs.getLast?,c.atQ with
  |some (.sref b2 off2 n2 cap2 ex2 c2),some q=>(match h[b]?,h[q]? with
   | some (.rows c' dss),some (.rows cq qs)=>if hcc:c=o.elt.ren (fun _=>q)∧c'=o.elt.ren (fun _=>q)∧cq=o.qc∧
      (o.elt.q2&&o.qc.pl&&o.args.all C.pl&&!(xs.dropLast.any zJk)&&!((zQz xs.dropLast).contains b)&&!((zQz xs.dropLast).contains b2)&&!((zQz xs.dropLast).contains q)&&!(q==b))=true∧0<o.elt.cells then
     (if Z.XGr (hcc.2.1▸dss:List (List (El (o.elt.ren fun _=>q)))) (hcc.1▸d:MixE (El (o.elt.ren fun _=>q)))then(if Z.EqN (Z.len dss) 1 then rowAt h (o.elt.ren fun _=>q) b2 off2 n2 c2 fun vs=>
      deFs h o.args xs.dropLast fun ds=>Z.bind (Z.yXm (Z.xlen d) (fun k=>o.fn k (hcc.2.2.1▸qs:List (List (El o.qc))) (renL (fun _=>q) o.elt (Z.xget (hcc.2.1▸dss:List (List (El (o.elt.ren fun _=>q)))) (hcc.1▸d:MixE (El (o.elt.ren fun _=>q))))) ds (renL (fun _=>q) o.elt vs))
        (o.fn0 (hcc.2.2.1▸qs:List (List (El o.qc))) ds (renL (fun _=>q) o.elt vs))) fun l=>
       if Z.Lt (Z.xlen d) (Z.len l.2)then K (.mix b (o.elt.ren fun _=>q) (Z.xnew 0 (Z.len l.2))) ((((yW9 (zQz xs.dropLast) h).set b2 .dead).set b (.rows (o.elt.ren fun _=>q) [renK (fun _=>q) o.elt l.2])).set q (.rows o.qc l.1)) (q::b::b2::(zQz xs.dropLast++m))else none
      else none)else none)else none
   |_,_=>none)
  |_,_=>none)
 |_=>none
def ovlV(args:List VV)(h:zQa)(K:VV→Option β):Option β:=
 match args with
 |[.sref b _ _ _ _ _, .sref b2 _ _ _ _ _]=>(match h[b2]? with
  |some (.vec c ds)=>if b≠b2∧zKh h b=true∧c.cells≠0 then(if Z.EqN (Z.len ds) 0 then none else K (.bool false))else none
  |_=>none)
 |_=>none
noncomputable def uXo(c:VCfg)(call:xXk β)(f:FuncId)(args:List VV)(h:zQa)(m:List Nat)(K KP:KVal β):Option β:=
 match c.xpf f with
 |true=>ovlV args h fun v=>K v h m
 |false=>match c.mpf f with
 |some o=>uXs o args h m K
 |none=>match c.opf f with
 |some o=>match vKl h o.ores with
  |true=>uXp o args h m K
  |false=>uXr o args h m K
 |none=>match c.rpf f with
 |some o=>uXq o args h m K
 |none=>match c.pf f with
 | some p=>match c.own f with
  |true=>deFs h p.args args fun d=>match ownLen p.args d with
   |some n=>if Z.EqN n 0 then vZg p args h m K else call (.fn f) args h m K KP
   |none=>none
  |false=>vZg p args h m K
 |none=>match c.qpf f with
 |some o=>vZi o args h m K
 |none=>call (.fn f) args h m K KP
def yZp(h:zQa):Option VObj→zQa
 |some b=>h++[b]
 |none=>h
def farV(ρ:Operand→VV)(lo ro:Op):Bool:=
 match lo,ro with
 | .store _ a _, .load _ a'=>match ρ a,ρ a' with
  | .ptr b _, .ptr b' _=>b !=b'
  |_,_=>false
 |_,_=>false
def farsV(ops:Array Oper)(ρ:Operand→VV)(lo:Op)(rs:List Nat):Bool:=rs.all fun r=>match ops[r]? with
 |some o=>farV ρ lo o.op
 |none=>false
def xQs(n:Nat)(touched:List Nat)(v:VV):Bool:=
 match v with
 | .ptr b _=>decide (b<n)&&!touched.contains b
 | .ptrE b _ _=>decide (b<n)&&!touched.contains b
 | .ptrF b _ _ _=>decide (b<n)&&!touched.contains b
 | .xptr b _ _ _ _=>decide (b<n)&&!touched.contains b
 | .rop _=>true
 |_=>false
def xKn(n:Nat)(touched:List Nat)(v:VV):Bool:=
 match v with
 | .ptr b _=>decide (b<n)&&!touched.contains b
 | .sref b _ _ _ _ _=>decide (b<n)&&!touched.contains b
 | .mix b _ _=>decide (b<n)&&!touched.contains b
 | .rop _=>true
 | .sl _ _ _ _=>true
 | .nsl=>true
 |_=>false
def vQp(x y:VV):Bool:=
 match x with
 | .int _ _=>match y with
  | .int _ _=>true
  |_=>false
 | .str _=>match y with
  | .str _=>true
  |_=>false
 |_=>false
def vQo(ρ:Operand→VV)(cl:Call):Bool:=
 match cl.callee with
 | .builtin .len=>match cl.args.toList with
  |[x]=>match ρ x with
   | .nsl=>true
   | .sl _ _ _ _=>true
   |_=>false
  |_=>false
 |_=>false
def wW2(n:Nat)(touched:List Nat)(ρ:Operand→VV)(o:Op):Bool:=
 match o with
 | .load _ a=>xQs n touched (ρ a)
 | .fieldAddr _ x _=>xQs n touched (ρ x)
 | .nilCheck x=>xQs n touched (ρ x)
 | .indexAddr _ x _=>xKn n touched (ρ x)
 | .slice _ x _ _ _=>xKn n touched (ρ x)
 | .binOp _ _ x y _=>vQp (ρ x) (ρ y)
 | .call cl=>vQo ρ cl
 | .move _| .assign _| .pick _ _ _| .build _ _| .unOp _ _ _| .field _ _ _| .index _ _ _| .extract _ _=>true
 |_=>false
def xKm(ops:Array Oper)(ρ:Operand→VV)(n:Nat)(touched:List Nat)(rs:List Nat):Bool:=rs.all fun r=>match ops[r]? with
 |some o=>wW2 n touched ρ o.op
 |none=>false
def fgtV(draw:Bool)(nl:Nat)(v:VV):VV:=match draw with
 |true=>v
 | false=>match nl with
  |7=>(match v with
   | .sl c ds _ _=>.sl c ds none false
   |v=>v)
  |_=>v
def frzB(v:VV)(h:zQa)(K:VV→zQa→Option β):Option β:=
 match v with
 | .sref b off len cap ex c=>(match c.pl with
  |true=>deF0 h (.list c) (.sref b off len cap ex c) fun d=>K (valV (.list c) d) (yW9 [b] h)
  |false=>none)
 |_=>none
def getP(vs:List VV)(p:Nat×Option Nat):Option VV:=match p.2 with
 |none=>vs[p.1]?
 |some j=>match vs[p.1]? with
  |some (.agg ws)=>ws[j]?
  |_=>none
def setP(vs:List VV)(p:Nat×Option Nat)(v:VV):List VV:=match p.2 with
 |none=>vs.set p.1 v
 |some j=>match vs[p.1]? with
  |some (.agg ws)=>vs.set p.1 (.agg (ws.set j v))
  |_=>vs
def vQr(e:Bool)(i:Nat):Nat→List VV→List (Nat×Option Nat)
 |_,[]=>[]
 | j,w::ws=>match w with
  | .sref _ _ _ _ _ _=>(i,some j)::vQr e i (j+1) ws
  | .sl c _ _ _=>(match e&&!c.xQx with
   |false=>vQr e i (j+1) ws
   |true=>(i,some j)::vQr e i (j+1) ws)
  |_=>vQr e i (j+1) ws
def vQq(e:Bool):Nat→List VV→List (Nat×Option Nat)
 |_,[]=>[]
 |i,v::vs=>match v with
  | .sref _ _ _ _ _ _=>(i,none)::vQq e (i+1) vs
  | .agg ws=>vQr e i 0 ws++vQq e (i+1) vs
  |_=>vQq e (i+1) vs
def mixA(i:Nat):Nat→List VV→List (Nat×Option Nat)
 |_,[]=>[]
 |j,w::ws=>match w with
  | .mix _ _ _=>(i,some j)::mixA i (j+1) ws
  |_=>mixA i (j+1) ws
def mixP:Nat→List VV→List (Nat×Option Nat)
 |_,[]=>[]
 |i,v::vs=>match v with
  | .mix _ _ _=>(i,none)::mixP (i+1) vs
  | .agg ws=>mixA i 0 ws++mixP (i+1) vs
  |_=>mixP (i+1) vs
def vJf(e m:Bool)(vs:List VV):List (Nat×Option Nat):=match m with
 |true=>vQq e 0 vs++mixP 0 vs
 |false=>vQq e 0 vs
def sinkL(h:zQa)(c:C):Option Nat:=match yKb h c with
 |some q=>some q
 |none=>(List.range h.length).find? fun q=>match h[q]? with
  |some (.rows c' _)=>decide (c'=c)
  |_=>false
def layP(p:Nat×Option Nat)(vs:List VV)(h:zQa)(m:List Nat)(K:List VV→zQa→List Nat→Option β):Option β:=
 match getP vs p with
 |some (.sref b off len cap ex c)=>match h[b]? with
  | some (.vec c' ds)=>if hc:c'.cells=c.cells then(if Z.EqN off 0 then(if Z.EqN len (Z.len ds)then(match sinkL h c' with
    |some Q=>match h[Q]? with
     |some (.rows c2 dss)=>if h2:c2=c' then Z.bnd (Z.app (h2▸dss:List (List (El c'))) [ds]) fun zs=>K (setP vs p (.mix Q c' (Z.xnew (Z.len dss) len))) ((h.set b .dead).set Q (.rows c' zs)) (b::Q::m)else none
     |_=>none
    |none=>K (setP vs p (.mix h.length c' (Z.xnew 0 len))) (h.set b .dead++[.rows c' [ds]]) (b::m))else(match sinkL h c' with
    |some _=>none
    |none=>if Z.Le len (Z.len ds)then K (setP vs p (.mix h.length c' (Z.xnew 0 len))) (h.set b .dead++[.rows c' [Z.seg ds 0 len]]) (b::m)else none))else none)else none
  |_=>K vs h m
 |some (.sl c ds none false)=>if Z.EqN (Z.len ds) 0 then K (setP vs p (.sl (.arr c.cells .bool) [] none false)) h m else none
 | some (.mix b c d)=>match h[b]? with
  | some (.rows c' dss)=>(match yKb h c' with
   |some Q=>match h[Q]? with
    |some (.rows c2 dss2)=>if h2:c2=c∧c'=c∧b≠Q then Z.bnd (Z.app (h2.1▸dss2:List (List (El c))) (h2.2.1▸dss:List (List (El c)))) fun zs=>K (setP vs p (.mix Q c (Z.wZy (Z.len dss2) d))) ((h.set b .dead).set Q (.rows c zs)) (b::Q::m)else K vs h m
    |_=>K vs h m
   |none=>K vs h m)
  |_=>K vs h m
 |_=>K vs h m
def layL:List (Nat×Option Nat)→List VV→zQa→List Nat→(List VV→zQa→List Nat→Option β)→Option β
 |[],vs,h,m,K=>K vs h m
 |p::l,vs,h,m,K=>layP p vs h m fun vs h m=>layL l vs h m K
def numV(v:VV):Bool:=match v with
 | .sref _ _ _ _ _ c=>match c with
  | .int _=>true
  |_=>false
 | .sl c _ _ _=>match c with
  | .int _=>true
  |_=>false
 |_=>false
def layQ(nl:Nat)(n:Nat)(d:Option Tmp)(v:VV)(h:zQa)(m:List Nat)(K:VV→zQa→List Nat→Option β):Option β:=match nl with
 | 11=>match d with
  | some i=>match Nat.blt i n with
   | true=>(match numV v with
    |true=>layP (0,none) [v] h m fun vs h m=>(match vs with
     |[v2]=>K v2 h m
     |_=>none)
    |false=>K v h m)
   |false=>none
  |none=>K v h m
 |_=>K v h m
def xY6(nl:Nat)(c:VCfg):VCfg:=match nl with
 |8=>{c with opf:=fun _=>none,rpf:=fun _=>none}
 |_=>c
noncomputable def yQs(c:VCfg)(call:xXk β)(nl:Nat)(ops:Array Oper)(draw:Bool)(KP:KVal β):List (Nat×List Nat)→List VV→zQa→List Nat→(List VV→zQa→List Nat→Option β)→Option β
 |[],t,h,m,K=>K t h m
 | (i,rs)::l,t,h,m,K=>match ops[i]? with
  |none=>if draw then none else yQs c call nl ops draw KP l t h m K
  | some o=>wWt ops t o fun t w=>match w with
   |false=>yQs c call nl ops draw KP l (putV t o.dst .undef) h m K
   | true=>match wQj c.ty o.op with
    | .mkl=>if draw then none else match nl with
     |5=>uWu c.ty h (evV c.glob t) o.op fun v h'=>yQs c call nl ops draw KP l (putV t o.dst v) h' m K
     |13=>uWt c.ty h (evV c.glob t) o.op fun v h'=>yQs c call nl ops draw KP l (putV t o.dst v) h' m K
     |_=>uWs c.ty h (evV c.glob t) o.op fun v h'=>layQ (nl-1) t.length o.dst v h' m fun v h' m=>yQs c call nl ops draw KP l (putV t o.dst v) h' m K
    | .quiet=>match draw with
     |true=>opVQ c.ty h (evV c.glob t) o.op fun v new=>yQs c call nl ops draw KP l (putV t o.dst v) (yZp h new) m K
     |false=>opVQ c.ty h (evV c.glob t) o.op fun v new=>layQ (nl-1) t.length o.dst v (yZp h new) m fun v h' m=>yQs c call nl ops draw KP l (putV t o.dst v) h' m K
    | .bsl=>match draw with
     |true=>opVQ c.ty h (evV c.glob t) o.op fun v new=>yQs c call nl ops draw KP l (putV t o.dst v) (yZp h new) m K
     |false=>(match nl with
      |6=>wJo c.ty h (evV c.glob t) o.op fun v h'=>frzB v h' fun v2 h2=>yQs c call nl ops draw KP l (putV t o.dst v2) h2 (v.blk++m) K
      |_=>wJo c.ty h (evV c.glob t) o.op fun v h'=>yQs c call nl ops draw KP l (putV t o.dst v) h' m K)
    | .loud=>if draw&&!(farsV ops (evV c.glob t) o.op rs)&&!(xKm ops (evV c.glob t) h.length (zJq h (evV c.glob t) o.op) rs)then none else
     match draw with
     |true=>opVL (yJt nl) c.ty h (evV c.glob t) o.op fun v h'=>yQs c call nl ops draw KP l (putV t o.dst (fgtV draw nl v)) h' (zJq h (evV c.glob t) o.op++m) K
     |false=>opVL (yJt nl) c.ty h (evV c.glob t) o.op fun v h'=>layQ nl t.length o.dst (fgtV draw nl v) h' (zJq h (evV c.glob t) o.op++m) fun v h' m=>yQs c call nl ops draw KP l (putV t o.dst v) h' m K
    | .call f=>match o.op with
     | .call cl=>match evV c.glob t f with
      | .func g first captured=>
       uXo (xY6 nl c) call g (first++cl.args.toList.map (evV c.glob t)++captured) h [] (fun v h' m'=>
        if draw&&!rs.isEmpty&&!zYs (xY6 nl c) g (first++cl.args.toList.map (evV c.glob t)++captured)&&!(xKm ops (evV c.glob t) h.length m' rs)then none else
        yQs c call nl ops draw KP l (putV t o.dst v) h' (m'++m) K) fun v h' m'=>(match draw with
        |true=>none
        |false=>KP v h' (m'++m))
      | .yield y=>if draw&&!rs.isEmpty then none else
       call (.yl y) (cl.args.toList.map (evV c.glob t)) h m (fun v h' m'=>yQs c call nl ops draw KP l (putV t o.dst v) h' m' K) fun _ _ _=>none
      |_=>none
     |_=>none
    | .pan x=>match draw with
     |true=>none
     |false=>(match evV c.glob t x with
      | .ifc u v=>KP (.ifc u v) h m
      |_=>none)
def known(x:Operand)(t:List VV)(b:Bool):List VV:=
 match x with
 | .tmp i=>t.set i (.bool b)
 |_=>t
def frzL:List (Nat×Nat)→List VV→zQa→List Nat→(zQa→List Nat→Option β)→Option β
 |[],t,h,m,K=>K h m
 |p::l,t,h,m,K=>frzC p.1 p.2 t h m fun h m=>frzL l t h m K
noncomputable def uWv(sp:LSpec)(id:Nat)(writes:List Nat)(body:List VV→zQa→KOut β→Option β)(t1:List VV)(h1:zQa)(m:List Nat)(K:KOut β):Option β:=
 match Items.get sp.items t1 h1 with
 |none=>Z.zZ7 (id*8+2) t1 h1 []
 | some d0=>yWl sp.tails (sp.pre t1 h1 d0).1 (sp.pre t1 h1 d0).2 h1 (
  if (writes.all (fun i=>sp.slots.contains i)&&sp.slots.all (fun i=>writes.contains i))=true then
   Z.loop (fun d k=>body (sp.head t1 h1 d).1 (sp.head t1 h1 d).2 fun o t' h' m'=>match o with
     | .normal=>frzL sp.frz t' h' m' fun h' m'=>if(m'.all fun b=>decide (h1.length≤b)||sp.blks.contains b)=true then
       (match Items.get sp.items t' h' with
       |some d'=>yWl sp.tails (sp.pre t1 h1 d').1 (sp.pre t1 h1 d').2 h' (if(VV.inBs h1.length (sp.head t1 h1 d').1&&(sp.head t1 h1 d').2.all (VObj.inB h1.length))=true then k d' else Z.zZ7 (id*8+5) t' h' m')
       |none=>Z.zZ7 (id*8+3) t' h' m')
      else Z.zZ7 (id*8+4) t' h' ((100000000+h1.length)::m')
     |o=>K o t' h' (m'++sp.blks++m)) d0
  else Z.zZ7 (id*8+6) t1 h1 [])
noncomputable def uWw(sp:LSpec)(writes:List Nat)(body:List VV→zQa→KOut β→Option β)(t:List VV)(h:zQa)(m:List Nat)(K:KOut β):Option β:=
 if(sp.toks.all fun p=>(decide (2000000≤p.1)&&decide (p.1<8000000))||decide (9000000≤p.1)||writes.contains (if 8000000≤p.1 then p.1-8000000 else p.1))=true then zXp sp.id sp.toks t h m fun t1 h1 m1=>uWv (sp.rel t1 h1) sp.id writes body t1 h1 m1 K
 else Z.zZ7 (sp.id*8+7) t h m
noncomputable def uWz(sp:LSpec)(writes:List Nat)(body:List VV→zQa→KOut β→Option β)(t:List VV)(h:zQa)(m:List Nat)(K:KOut β):Option β:=
 if (writes.all (fun i=>sp.slots.contains i)&&sp.slots.all (fun i=>writes.contains i)&&sp.blks.isEmpty)=true then
  Z.join (fun k=>body t h fun o t' h' m'=>match o with
   | .normal=>match m' with
    |[]=>match Items.get sp.items t' h' with
     |some d=>yWl sp.tails (sp.pre t h d).1 (sp.pre t h d).2 h' (if(VV.inBs h.length (sp.head t h d).1&&(sp.head t h d).2.all (VObj.inB h.length))=true then k d else Z.zZ7 (sp.id*8+5) t' h' m')
     |none=>Z.zZ7 (sp.id*8+3) t' h' m'
    |_::_=>Z.zZ7 (sp.id*8+4) t' h' m'
   |o=>K o t' h' (m'++m)) (fun d=>K .normal (sp.head t h d).1 (sp.head t h d).2 m)
 else Z.zZ7 (sp.id*8+6) t h []
def wX1(rd:Option Nat)(h:zQa):Bool:=
 match rd with
 |none=>true
 |some b=>match h[b]? with
  |some (.loop _ _ _ _ _ _ _)=>true
  |_=>false
def uWg:Option Jump→Out
 |none=>.normal
 |some j=>j.out
def xJ1(l:Nat)(t:List VV)(m:List Nat)(h:zQa)(K:KOut β):Option β:=
 match h[l]? with
 |some (.loop f ts ps a b st pend)=>match st with
  | .busy=>none
  |_=>K (uWg pend) t (h.set l (.loop f ts ps a b .exhausted pend)) m
 |_=>none
noncomputable def vx(c:VCfg)(call:xXk β)(fn:FuncId)(rd:Option Nat):Y→List VV→zQa→List Nat→KOut β→Option β
 | .skip,t,h,m,K=>K .normal t h m
 | .label _,t,h,m,K=>K .normal t h m
 | .region _ ops draw plan nl,t,h,m,K=>yQs c call nl ops draw (fun v h' m'=>K (.panic v.cv) (zZ2 (zW5 ops) t) h' m') (wKp ops draw plan) t h m fun t h m=>K .normal t h m
 | .seq a b,t,h,m,K=>vx c call fn rd a t h m fun o t h m=>match o with
  | .normal=>vx c call fn rd b t h m K
  |o=>K o t h m
 | .cond x a b,t,h,m,K=>match evV c.glob t x with
  | .bool q=>match q with
   |true=>vx c call fn rd a (known x t true) h m K
   |false=>vx c call fn rd b (known x t false) h m K
  |_=>none
 | .block id b,t,h,m,K=>vx c call fn rd b t h m fun o t h m=>match o with
  | .exit id'=>if id'=id then K .normal t h m else K (.exit id') t h m
  |o=>K o t h m
 | .loop sp0 b,t,h,m,K=>if(!sp0.known)=true then Z.zZ7 (sp0.id*8) t h []else uWw sp0 (b.writes++sp0.wKb) (fun t h K=>vx c call fn rd b t h [] K) t h m K
 | .join sp b,t,h,m,K=>uWz sp b.writes (fun t h K=>vx c call fn rd b t h [] K) t h m K
 | .exit id,t,h,m,K=>K (.exit id) t h m
 | .goto l,t,h,m,K=>K (.goto l) t h m
 | .ret,t,h,m,K=>K .ret t h m
 | .scope b,t,h,m,K=>vx c call fn rd b t h m fun o t h m=>match o with
  | .goto l=>none
  |o=>K o t h m
 | .rangeFunc g ps a b,t,h,m,K=>if wX1 rd h=true then match evV c.glob t g with
  | .func gf first captured=>call (.fn gf) (first++[.yield h.length]++captured) (h++[.loop fn t ps a b .ready none]) m (fun _ h1 m1=>xJ1 h.length t m1 h1 K) fun _ _ _=>none
  |_=>none
  else none
def Y.hasL(l:Nat):Y→Bool
 | .seq a b=>a.hasL l||b.hasL l
 | .label l'=>l'==l
 | .join _ b=>b.hasL l
 |_=>false
noncomputable def xQl(c:VCfg)(call:xXk β)(fn:FuncId)(rd:Option Nat)(l:Nat):Y→List VV→zQa→List Nat→KOut β→Option β
 | .seq a b,t,h,m,K=>match a.hasL l with
  |true=>xQl c call fn rd l a t h m fun o t h m=>match o with
   | .normal=>vx c call fn rd b t h m K
   |o=>K o t h m
  |false=>xQl c call fn rd l b t h m K
 | .label l',t,h,m,K=>if l'=l then K .normal t h m else none
 |_,_,_,_,_=>none
noncomputable def vxB(c:VCfg)(call:xXk β)(fn:FuncId)(rd:Option Nat):Y→List VV→zQa→List Nat→KOut β→Option β
 | .seq a b,t,h,m,K=>vx c call fn rd a t h m fun o t h m=>match o with
  | .normal=>vxB c call fn rd b t h m K
  |o=>K o t h m
 | .scope b,t,h,m,K=>vx c call fn rd b t h m fun o t h m=>match o with
  | .goto l=>match b.hasL l with
   |true=>xQl c call fn rd l b t h m fun o t h m=>match o with
    | .goto _=>none
    |o=>K o t h m
   |false=>none
  |o=>K o t h m
 |y,t,h,m,K=>vx c call fn rd y t h m K
def dfrY:Y→Option (Nat×Array Oper×Nat×Oper)
 | .region id ops draw plan nl=>match draw with
  |true=>none
  | false=>match ops[ops.size-1]? with
   |some o=>match o.op,o.guard with
    | .defer _,none=>some (id,ops,nl,o)
    |_,_=>none
   |none=>none
 |_=>none
def vX2(ρ:Operand→VV)(o:Op):Option (FuncId×List VV):=
 match o with
 | .defer cl=>match cl.callee with
  | .value f=>match ρ f with
   | .func g first captured=>some (g,first++cl.args.toList.map ρ++captured)
   |_=>none
  |_=>none
 |_=>none
noncomputable def runV(c:VCfg)(ops:Array Oper):List Nat→List VV→zQa→List Nat→(List VV→zQa→List Nat→Option β)→Option β
 |[],t,h,m,K=>K t h m
 | i::l,t,h,m,K=>match ops[i]? with
  |none=>none
  | some o=>match o.guard with
   |some _=>none
   |none=>match wQj c.ty o.op with
    | .quiet=>opVQ c.ty h (evV c.glob t) o.op fun v new=>runV c ops l (putV t o.dst v) (yZp h new) m K
    | .loud=>opVL 1 c.ty h (evV c.glob t) o.op fun v h'=>runV c ops l (putV t o.dst v) h' (zJq h (evV c.glob t) o.op++m) K
    |_=>none
noncomputable def sV(c:VCfg):Y→List VV→zQa→List Nat→(List VV→zQa→List Nat→Option β)→Option β
 | .skip,t,h,m,K=>K t h m
 | .region _ ops draw _ _,t,h,m,K=>match draw with
  |true=>none
  |false=>runV c ops (List.range ops.size) t h m K
 | .seq a b,t,h,m,K=>sV c a t h m fun t h m=>sV c b t h m K
 | .cond x a b,t,h,m,K=>match evV c.glob t x with
  | .bool q=>match q with
   |true=>sV c a t h m K
   |false=>sV c b t h m K
  |_=>none
 |_,_,_,_,_=>none
def panV:Option CV→Option VV
 |none=>some .niliface
 |some v=>match v with
  | .iface t x=>some (.ifc t x)
  |_=>none
noncomputable def dfrV(c:VCfg)(g:FuncId)(args:List VV)(pan:Option CV)(h:zQa)(m:List Nat)(K:zQa→List Nat→Option β):Option β:=
 match c.code g with
 |none=>none
 | some gd=>match gd.results with
  |_::_=>none
  | []=>match gd.body with
   | .seq (.region _ ops false _ _) y=>(match List.range ops.size with
    | 0::l=>(match ops[0]?,panV pan with
     |some o0,some pv=>(match isRecover o0.op,o0.guard with
      |true,none=>runV c ops l (putV (args++List.replicate (gd.ntmps-args.length) .undef) o0.dst pv) h m fun t h m=>sV c y t h m fun _ h m=>K h m
      |_,_=>none)
     |_,_=>none)
    |_=>none)
   |_=>none
noncomputable def vxBD(c:VCfg)(call:xXk β)(fn:FuncId):Y→List VV→zQa→List Nat→(List VV→zQa→List Nat→Option β)→Option β
 | .seq a b,t,h,m,K=>match dfrY a with
  | some q=>yQs c call q.2.2.1 q.2.1 false (fun _ _ _=>none) ((List.range (q.2.1.size-1)).map fun i=>(i,[])) t h m fun t h m=>(match vX2 (evV c.glob t) q.2.2.2.op with
   |some (g,args)=>vx c call fn none b (putV t q.2.2.2.dst .undef) h m fun o t h m=>(match o with
    | .normal=>dfrV c g args none h m fun h m=>K t h m
    | .ret=>dfrV c g args none h m fun h m=>K t h m
    | .panic v=>dfrV c g args (some v) h m fun h m=>K t h m
    |_=>none)
   |none=>none)
  |none=>vx c call fn none a t h m fun o t h m=>match o with
   | .normal=>vxBD c call fn b t h m K
   | .ret=>K t h m
   |_=>none
 |_,_,_,_,_=>none
def Y.defers:Y→Bool
 | .seq a b=>match dfrY a with
  |some _=>true
  |none=>b.defers
 |_=>false
def wXh(ty:Ty)(h:zQa)(t:List VV)(r:ResultVar)(K:VV→Option β):Option β:=
 match r with
 | .tmp i=>K (t.getD i .undef)
 | .cell a ty'=>vJe ty h ty' (t.getD a .undef) K
def zJc(ty:Ty)(h:zQa)(t:List VV):List ResultVar→(List VV→Option β)→Option β
 |[],K=>K []
 |r::rs,K=>wXh ty h t r fun v=>zJc ty h t rs fun vs=>K (v::vs)
def endV(l:Nat)(f:FuncId)(ts:List VV)(ps:Array Tmp)(a b:Y)(o:Out)(h:zQa)(m:List Nat)(K:KVal β):Option β:=
 match o.jump with
 |some j=>match j with
  |none=>K (.bool true) (h.set l (.loop f ts ps a b .ready none)) m
  |some j=>K (.bool false) (h.set l (.loop f ts ps a b .done (some j))) (l::m)
 |none=>none
def frzR(t:List VV)(h:zQa)(rs:List ResultVar):List (Nat×Nat):=rs.flatMap fun r=>match r with
 | .cell a _=>(match t.getD a .undef with
  | .ptr k _=>(match h[k]? with
   |some (.cells vs)=>(List.range vs.length).map fun j=>(k,j)
   |_=>[])
  |_=>[])
 |_=>[]
noncomputable def vxF(c:VCfg):Nat→xXk β
 |0=>fun _ _ _ _ _ _=>none
 | n+1=>fun w args h m K KP=>match w with
  | .yl l=>match h[l]? with
   | some (.loop f ts ps a b st pend)=>match st,pend with
    | .ready,none=>if args.length=ps.size then
      vx c (vxF c n) f (some l) a ((ps.toList.zip args).foldl (fun T p=>T.set p.1 p.2) ts) h [] fun o t1 h1 m1=>match o with
       | .normal=>if m1.contains l=true then none else
        vx c (vxF c n) f (some l) b t1 (h1.set l (.loop f ts ps a b .busy none)) [] fun o _ h3 m3=>
         if m3.contains l=true then none else endV l f ts ps a b o h3 (m3++m1++m) K
       |_=>none
     else none
    |_,_=>none
   |_=>none
  | .fn f=>match c.code f with
  |none=>none
  |some fd=>match fd.body.defers with
  |true=>vxBD c (vxF c n) f fd.body (args++List.replicate (fd.ntmps-args.length) .undef) h m fun t h m=>zJc c.ty h t fd.results fun vs=>layL (if fd.lay then vJf fd.layE fd.layM vs else []) vs h m fun vs h m=>K (oneV vs) h m
  | false=>vxB c (vxF c n) f none fd.body (args++List.replicate (fd.ntmps-args.length) .undef) h m fun o t h m=>match o with
   | .normal=>frzL (if fd.frz then frzR t h fd.results else []) t h m fun h m=>zJc c.ty h t fd.results fun vs=>layL (if fd.lay then vJf fd.layE fd.layM vs else []) vs h m fun vs h m=>K (oneV vs) h m
   | .ret=>frzL (if fd.frz then frzR t h fd.results else []) t h m fun h m=>zJc c.ty h t fd.results fun vs=>layL (if fd.lay then vJf fd.layE fd.layM vs else []) vs h m fun vs h m=>K (oneV vs) h m
   | .panic v=>(match v with
    | .iface u x=>KP (.ifc u x) h m
    |_=>none)
   |_=>none
end
def wQf{β:Type}:(rs:List C)→VV→zQa→(Els rs→Option β)→Option β
 |[],v,h,K=>match v with
  | .tuple vs=>deFs h [] vs K
  |_=>none
 |[c],v,h,K=>deF h c v K
 |a::b::cs,v,h,K=>match v with
  | .tuple vs=>deFs h (a::b::cs) vs K
  |_=>none
noncomputable def wY6(c:VCfg)(n:Nat)(f:FuncId)(args:List C)(ores:List OC)(d:Els args):Option (Els (zZl ores)):=
 if(ores.all fun x=>x.code.pl)=false then none else vxF c n (.fn f) (zQ5 args d) [] [] (fun v h _=>outT ores v h some) fun _ _ _=>none
noncomputable def wZ2(c:VCfg)(n:Nat)(f:FuncId)(args objs res:List C)(d:Els args):Option (Els (yYy objs)×Els res):=
 vxF c n (.fn f) (zQ5 args d) [] [] (fun v h _=>outR objs res v h some) fun _ _ _=>none
def outM(elt:C)(v:VV)(h:zQa):Option (List (El elt)):=
 match v with
 | .sref b off len _ _ c=>match h[b]? with
  |some (.vec c' zs)=>if hcc:c'=elt∧c=elt then(if Z.Le (Z.addN off len) (Z.len zs)then some (Z.seg (hcc.1▸zs:List (El elt)) off len)else none)else none
  |_=>none
 |_=>none
def vK1(elt qc:C)(v:VV)(h:zQa):Option (List (List (El qc))×List (El elt)):=
 match h[(2:Nat)]? with
 | some (.rows c' zs)=>if hcc:c'=qc then(match v with
  | .sref b off len _ _ c=>(match h[b]? with
   |some (.vec c2 ys)=>if hc2:c2=elt∧c=elt then(if Z.Le (Z.addN off len) (Z.len ys)then some ((hcc▸zs:List (List (El qc))),Z.seg (hc2.1▸ys:List (El elt)) off len)else none)else none
   |_=>none)
  |_=>none)else none
 |_=>none
noncomputable def wWu(c:VCfg)(n:Nat)(f:FuncId)(elt qc:C)(args:List C)(k:Nat)(qs:List (List (El qc)))(ds:List (El elt))(d:Els args)(vs:List (El elt)):Option (List (List (El qc))×List (El elt)):=
 vxF c n (.fn f) (.sref 0 0 (Z.len ds) k true elt::(zQ5 args d++[.sref 1 0 (Z.len vs) (Z.len vs) false elt])) [.vec elt ds, .vec elt vs, .rows qc qs] [] (fun v h _=>vK1 elt qc v h) fun _ _ _=>none
noncomputable def xZ9(c:VCfg)(n:Nat)(f:FuncId)(elt qc:C)(args:List C)(qs:List (List (El qc)))(d:Els args)(vs:List (El elt)):Option (List (List (El qc))×List (El elt)):=
 vxF c n (.fn f) (.sl elt [] none true::(zQ5 args d++[.sref 1 0 (Z.len vs) (Z.len vs) false elt])) [.dead, .vec elt vs, .rows qc qs] [] (fun v h _=>vK1 elt qc v h) fun _ _ _=>none
noncomputable def vY8(c:VCfg)(n:Nat)(f:FuncId)(args res:List C)(d:Els args):Option (Els res):=
 vxF c n (.fn f) (zQ5 args d) [] [] (fun v h _=>wQf res v h some) fun _ _ _=>none
end Go.Eng
/- Each operation of the evaluator over typed values is that of the clean world. -/
namespace Go.Eng
set_option linter.unusedVariables false
section
variable {β:Type} {ty:Ty} {h:zQa} {r:β}
theorem zXd{x:Option CV}{c:CV}(h:x=some c):rdC x=some (c,none):=by rw[h];rfl
theorem xK9{x:Option (CV×HObj)}{p:CV×HObj}(h:x=some p):mkC x=some (p.1,some p.2):=by rw[h];rfl
theorem vW5{gt:Bool}{ρ:Operand→VV}{ρc:Operand→CV}(hρ:∀x,ρc x=(ρ x).cv){x:Operand}{xs:List Operand}{v:VV}(h:maxV gt (ρ x) (xs.map ρ)=some v):maxC gt (ρc x) (xs.map ρc)=some v.cv:=by
 have:=vW4 h;rw[J5]at this;rw[hρ x,J4 (fun y _=>hρ y)]
 exact this
theorem vZe{ρ:Operand→VV}{ρc:Operand→CV}(hρ:∀x,ρc x=(ρ x).cv){cl:Call}{K:VV→Option β}(he:vZf ty h ρ cl K=some r):∃v,K v=some r∧yXk ty (hc h) ρc cl=some v.cv:=by
 unfold vZf at he;unfold yXk;split at he<;>(try (simp at he;done))
 ·rename_i h1
  split at he<;>(try (simp at he;done))
  rename_i x t h2 h3;obtain⟨v,k1,k2⟩:=uWx he;exact⟨v,k1,by simp only[h1,h2,h3,hρ];exact k2⟩
 ·rename_i h1
  split at he<;>(try (simp at he;done))
  rename_i x t h2 h3;obtain⟨v,k1,k2⟩:=uXm he;exact⟨v,k1,by simp only[h1,h2,h3,hρ];exact k2⟩
 ·rename_i h1
  split at he<;>(try (simp at he;done))
  rename_i x xs h2;split at he<;>(try (simp at he;done))
  rename_i v hv;exact⟨v,he,by simp only[h1,h2];exact vW5 hρ hv⟩
 ·rename_i h1
  split at he<;>(try (simp at he;done))
  rename_i x xs h2;split at he<;>(try (simp at he;done))
  rename_i v hv;exact⟨v,he,by simp only[h1,h2];exact vW5 hρ hv⟩
theorem map_cv{ρ:Operand→VV}{ρc:Operand→CV}(hρ:∀x,ρc x=(ρ x).cv)(l:List Operand):l.map ρc=(l.map ρ).map VV.cv:=by
 rw[J5];exact J4 fun x _=>hρ x
theorem xK6{ρ:Operand→VV}{ρc:Operand→CV}(hρ:∀x,ρc x=(ρ x).cv)(o:Option Operand):o.map ρc=(o.map ρ).map VV.cv:=by
 cases o<;>simp[hρ]
theorem vKz{ρ:Operand→VV}{ρc:Operand→CV}(hρ:∀x,ρc x=(ρ x).cv)(l:List (Nat×Operand)):(l.map fun p=>(p.1,ρc p.2))=((l.map fun p=>(p.1,ρ p.2)).map fun p=>(p.1,p.2.cv)):=by
 rw[J5];exact J4 fun x _=>by simp[hρ]
theorem yJp{t:TypeId}{k1 k2:IntKind}(h:vW6 ty t=some (k1,k2)):∃i kt e jk j,ty t=some i∧i.desc=.map kt e∧ty kt=some jk∧ty e=some j∧jk.desc=.int k1∧zeroV j=some (.int k2 0):=by
 unfold vW6 at h;split at h<;>(try (simp at h;done))
 rename_i i hi;split at h<;>(try (simp at h;done))
 rename_i kt e hd;split at h<;>(try (simp at h;done))
 rename_i jk j hk hj;split at h<;>(try (simp at h;done))
 rename_i k1' k2' n hd1 hz;split at h<;>(try (simp at h;done))
 rename_i hn;subst hn;simp only[Qa,Je]at h;obtain⟨rfl,rfl⟩:=h;exact⟨i,kt,e,jk,j,hi,hd,hk,hj,hd1,hz⟩
theorem wXu{n:Nat}{t:TypeId}{r0:Option VV}{K:VV→Option VObj→Option β}(he:xJg ty n t r0 K=some r):∃v new,K v new=some r∧yQ3 ty n t (r0.map VV.cv)=some (v.cv,new.map VObj.ho):=by
 unfold xJg at he;split at he<;>(try (simp at he;done))
 rename_i k1 k2 hm;obtain⟨i,kt,e,jk,j,h1,h2,_⟩:=yJp hm;split at he
 ·exact⟨_,_,he,rfl⟩
 ·split at he<;>(try (simp at he;done))
  exact⟨_,_,he,by simp[yQ3,VV.cv,h1,h2,vXe,VObj.ho,entC]⟩
theorem yZv{k1 k2:IntKind}{n:Int}:∀(es:List (Int×Int)) (i:Nat),zY2 (.int k1 n) (entC k1 k2 es) i=some ((Z.wQr n es i).map fun q=>(q.1,CV.int k2 q.2))
 |[],i=>rfl
 |p::es,i=>by
  have:=yZv (k1:=k1) (k2:=k2) (n:=n) es (i+1);simp only[entC,Qg,zY2,Z.wQr,if_true]at this⊢;split
  ·rfl
  ·exact this
theorem vYv{h:zQa}{b:Nat}{k1 k2:IntKind}{es:List (Int×Int)}(hb:h[b]?=some (.map k1 k2 es)):(hc h)[b]?=some (.map (entC k1 k2 es)):=by rw[zQ6,hb];rfl
theorem wYe{h:zQa}{t:TypeId}{m k:VV}{ok:Bool}{K:VV→Option β}(he:wXv ty h t m k ok K=some r):∃v,K v=some r∧yQ4 ty (hc h) t m.cv k.cv ok=some v.cv:=by
 unfold wXv at he;split at he<;>(try (simp at he;done))
 rename_i k1 k2 hm;obtain⟨i,kt,e,jk,j,h1,h2,h3,h4,h5,h6⟩:=yJp hm;split at he<;>(try (simp at he;done))
 rename_i b k0 n;split at he<;>(try (simp at he;done))
 rename_i j1 j2 es hb;split at he<;>(try (simp at he;done))
 rename_i hk;obtain⟨rfl,rfl,rfl⟩:=hk;have key:yQ4 ty (hc h) t (.map b) (.int j1 n) ok=some (if ok then .tuple [.int j2 (Z.mget es n), .bool (Z.mhas es n)]else .int j2 (Z.mget es n)):=by
  unfold yQ4;simp only[h1,h2,h3,h4,h5,plainKey,if_true,zYu,vYv hb,yZv,h6];cases hf:Z.wQr n es 0 with
  |none=>cases ok<;>simp[Z.mget,Z.mhas,hf]
  |some q=>cases ok<;>simp[Z.mget,Z.mhas,hf]
 cases ok with
 |true=>exact⟨_,he,by rw[Qf rfl]at key;exact key⟩
 |false=>exact⟨_,he,by rw[Qi (by decide)]at key;exact key⟩
theorem uQ1{t:TypeId}{x:VV}{K:VV→Option β}(he:sapV ty t x K=some r):∃v,K v=some r∧sapC ty (hc h) t x.cv=some v.cv:=by
 unfold sapV at he;split at he<;>(try (simp at he;done))
 rename_i i hi;split at he<;>(try (simp at he;done))
 rename_i n e hd;split at he<;>(try (simp at he;done))
 rename_i j hj;split at he<;>(try (simp at he;done))
 rename_i c ds tok full;split at he<;>(try (simp at he;done))
 rename_i hcond;split at he<;>(try (simp at he;done))
 rename_i hn;replace hn:n≤ds.length:=hn;refine⟨_,he, ?_⟩;unfold sapC;simp only[hi,hd,hj,VV.cv,Qh];rw[Qf ⟨hcond.1,hn,hcond.2⟩];congr 2;simp only[valC];congr 1
 rw[←J1,Q6];have e:ds.take n=(List.range n).map fun i=>ds.getD i (dfl c):=by
  apply Jy;intro i;by_cases hi:i<n
  ·rw[Jh hi]
   simp[hi,List.getD,Qm (show i<ds.length by omega)]
  ·rw[J2 (by simp;omega),J2 (by simp;omega)]
 rw[e,Q6]
theorem uW2{ty:Ty}{H:Heap}{op:BinOp}{t:TypeId}{cst yn:Bool}(x y:VV)(hx:wXz x=true)(hy:wXz y=true):binC ty [] op t cst false x.cv y.cv=binC ty H op t cst yn x.cv y.cv:=by
 cases x<;>simp[wXz]at hx<;>cases y<;>simp[wXz]at hy<;>simp only[VV.cv,binC,eqC]
mutual
theorem xY5:∀{c:CV} {v:VV},zZd c=some v→v.cv=c
 | .int k n,v,h=>by simp[zZd]at h;subst h;rfl
 | .bool b,v,h=>by simp[zZd]at h;subst h;rfl
 | .nilptr,v,h=>by simp[zZd]at h;subst h;rfl
 | .agg cs,v,h=>by
  simp only[zZd]at h;split at h<;>simp at h;rename_i vs hvs;subst h;simp only[VV.cv,VV.zQx,yJi hvs]
 | .tuple cs,v,h=>by
  simp only[zZd]at h;split at h<;>simp at h;rename_i vs hvs;subst h;simp only[VV.cv,VV.zQx,yJi hvs]
 | .junk,v,h=>by simp[zZd]at h
 | .str _,v,h=>by simp[zZd]at h
 | .ptr _ _,v,h=>by simp[zZd]at h
 | .rop _,v,h=>by simp[zZd]at h
 | .slice _ _ _ _,v,h=>by simp[zZd]at h
 | .sref _ _ _ _ _ _,v,h=>by simp[zZd]at h
 | .gref _ _ _ _ _ _,v,h=>by simp[zZd]at h
 | .gptr _ _ _ _,v,h=>by simp[zZd]at h
 | .map _,v,h=>by simp[zZd]at h
 | .nilmap,v,h=>by simp[zZd]at h
 | .func _ _ _,v,h=>by simp[zZd]at h
 | .yield _,v,h=>by simp[zZd]at h
 | .nilfunc,v,h=>by simp[zZd]at h
 | .iface _ _,v,h=>by simp[zZd]at h
 | .niliface,v,h=>by simp[zZd]at h
theorem yJi:∀{cs:List CV} {vs:List VV},yJj cs=some vs→vs.map VV.cv=cs
 |[],vs,h=>by simp[yJj]at h;subst h;rfl
 |c::cs,vs,h=>by
  simp only[yJj]at h;split at h<;>simp at h;rename_i v vs' h1 h2;subst h;rw[Qg,xY5 h1,yJi h2]
end
theorem wYr{ty:Ty}{x:VV}{t:TypeId}{ok:Bool}{K:VV→Option β}(he:wZp ty x t ok K=some r):∃v,K v=some r∧zJ4 ty x.cv t ok=some v.cv:=by
 unfold wZp at he;split at he<;>(try (simp at he;done))
 rename_i c hc;split at he<;>(try (simp at he;done))
 rename_i v hv;exact⟨v,he,by rw[hc,xY5 hv]⟩
theorem wXq{ρ:Operand→VV}{ρc:Operand→CV}(hρ:∀x,ρc x=(ρ x).cv){o:Op}{K:VV→Option VObj→Option β}(he:opVQ ty h ρ o K=some r):
  ∃v new,K v new=some r∧opQ ty (hc h) (hc h).length ρc o=some (v.cv,new.map VObj.ho):=by
 cases o<;>simp only[opVQ]at he<;>(try (simp at he;done))<;>simp only[opQ,hρ,zW8]
 case move x=>exact⟨_,_,he,rfl⟩
 case assign x=>exact⟨_,_,he,rfl⟩
 case pick a b d=>obtain⟨v,k1,k2⟩:=vKy he;exact⟨v,none,k1,zXd k2⟩
 case alloc t=>exact vZv he
 case box t x=>exact uXt he
 case build t parts=>
  obtain⟨v,k1,k2⟩:=vZk he;refine⟨v,none,k1,zXd ?_⟩;rw[←k2,J5];rfl
 case buildSlice t len parts=>
  obtain⟨v,o,k1,k2⟩:=yZm he;refine⟨v,some o,k1, ?_⟩;have:=xK9 k2;rw[J5]at this;exact this
 case load t a=>obtain⟨v,k1,k2⟩:=wK5 he;exact⟨v,none,k1,zXd k2⟩
 case nilCheck x=>obtain⟨v,k1,k2⟩:=wQm he;exact⟨v,none,k1,zXd k2⟩
 case makeInterface t x=>
  split at he<;>(try (simp at he;done))
  rename_i u c hm;exact⟨_,none,he,zXd hm⟩
 case binOp op t x y rs=>
  split at he
  ·unfold ifcV at he
   split at he<;>(try (simp at he;done))
   rename_i hi;split at he<;>(try (simp at he;done))
   rename_i b hb;refine⟨.bool b,none,he,zXd ?_⟩;simp only[Qc]at hi;rw[←uW2 _ _ hi.1 hi.2,hb];rfl
  split at he
  ·rename_i hy hn
   obtain⟨v,k1,k2⟩:=uWp (cst:=isConst x||isConst y) he;refine⟨v,none,k1,zXd ?_⟩;have hy':zZq y=true:=by
    unfold vYr at hy;split at hy<;>(try (simp at hy;done))
    rfl
   rw[hn,hy'];exact k2
  ·obtain⟨v,k1,k2⟩:=uXw (h:=h) he;exact⟨v,none,k1,zXd k2⟩
 case unOp op t x=>obtain⟨v,k1,k2⟩:=unV_ok he;exact⟨v,none,k1,zXd k2⟩
 case convert s t x=>exact vJ0 he
 case sliceToArrayPointer t x=>obtain⟨v,k1,k2⟩:=uQ1 he;exact⟨v,none,k1,zXd k2⟩
 case makeFunc f first captured=>
  split at he<;>(try (simp at he;done))
  refine⟨_,_,he, ?_⟩;simp only[yW4,VV.cv,VV.zQx,map_cv hρ];rfl
 case makeSlice t l m=>
  obtain⟨v,o,k1,k2⟩:=xJe he;exact⟨v,some o,k1,xK9 k2⟩
 case makeMap t x=>
  obtain⟨v,new,k1,k2⟩:=wXu he;exact⟨v,new,k1,by rw[xK6 hρ x];exact k2⟩
 case lookup t m k ok=>
  obtain⟨v,k1,k2⟩:=wYe he;exact⟨v,none,k1,zXd k2⟩
 case slice t x lo hi mx=>
  obtain⟨v,k1,k2⟩:=vQ7 he;refine⟨v,none,k1,zXd ?_⟩;rw[xK6 hρ lo,xK6 hρ hi,xK6 hρ mx];exact k2
 case fieldAddr t x f=>obtain⟨v,k1,k2⟩:=xJx he;exact⟨v,none,k1,zXd k2⟩
 case field t x f=>obtain⟨v,k1,k2⟩:=vXs he;exact⟨v,none,k1,zXd k2⟩
 case indexAddr t x i=>obtain⟨v,k1,k2⟩:=xJp he;exact⟨v,none,k1,zXd k2⟩
 case index t x i=>obtain⟨v,k1,k2⟩:=vXj he;exact⟨v,none,k1,zXd k2⟩
 case extract x i=>obtain⟨v,k1,k2⟩:=wZb he;exact⟨v,none,k1,zXd k2⟩
 case typeAssert x u t ok=>obtain⟨v,k1,k2⟩:=wYr he;exact⟨v,none,k1,zXd k2⟩
 case call cl=>obtain⟨v,k1,k2⟩:=vZe hρ he;exact⟨v,none,k1,zXd k2⟩
theorem yQt{c:C}{ds ns:List (El c)}{off:Nat}:vecC c (zQd ds off ns)=zQd (vecC c ds) (off*c.cells) (vecC c ns):=by
 unfold zQd;rw[yQu,yQu,zQp,←Qz,zWp,zWh]
theorem vJy{t:TypeId}{d s:VV}{K:VV→zQa→Option β}(he:copyV ty h t d s K=some r):∃v h',K v h'=some r∧wWb ty (hc h) t d.cv s.cv=some (v.cv,hc h'):=by
 unfold copyV at he;split at he<;>(try (simp at he;done))
 rename_i i hi;split at he<;>(try (simp at he;done))
 rename_i e hd;split at he<;>(try (simp at he;done))
 rename_i j c hj hcc;have hfit:=zYo he;obtain⟨f1,f2,f3⟩:=zXv hfit;obtain⟨ys,h1,e1⟩:=zZ6 he;split at h1<;>(try (simp at h1;done))
 ·rename_i b off len cap ex c'
  split at h1<;>(try (simp at h1;done))
  rename_i c'' ds hb;split at h1<;>(try (simp at h1;done))
  rename_i hc1;subst hc1;split at h1<;>(try (simp at h1;done))
  rename_i hc2;subst hc2;split at h1<;>(try (simp at h1;done))
  rename_i hle;replace hle:off+len≤ds.length:=hle;refine⟨_,_,h1, ?_⟩;unfold wWb;simp only[hi,hd,hj,e1,VV.cv,zWr hb,Qh];have hnews:((ys.map (valC c'')).take (min ys.length len)).flatMap CV.flat=vecC c'' (ys.take (min ys.length len)):=by
   rw[←J1,Q6];rfl
  rw[hnews,Qf ⟨f2.symm,by rw[zQp,←Qz];exact Qn _ hle,zXc _ _⟩]
  rw[zQy];simp only[VObj.ho,Z.put,yQt,Z.take,Z.minN,Z.len,Z.ofN]
 ·rename_i b c' dd
  split at h1<;>(try (simp at h1;done))
  rename_i c'' dss hb;split at h1<;>(try (simp at h1;done))
  rename_i hc1;subst hc1;split at h1<;>(try (simp at h1;done))
  rename_i hc2;subst hc2;split at h1<;>(try (simp at h1;done))
  rename_i hx;replace hx:dd.xw dss=true:=hx;refine⟨_,_,h1, ?_⟩;cases dd with
  |data _=>simp[MixE.xw]at hx
  |nil=>simp[MixE.xw]at hx
  |ref k off n gen=>
  simp only[MixE.xw,Qc,decide_eq_true_eq,beq_iff_eq]at hx;obtain⟨q1,q2,q3⟩:=hx;unfold wWb;simp only[hi,hd,hj,e1,VV.cv,valC,mixC,zJg hb q1 q2,zJn hb,Qh];have hnews:((ys.map (valC c'')).take (min ys.length n)).flatMap CV.flat=vecC c'' (ys.take (min ys.length n)):=by
   rw[←J1,Q6];rfl
  rw[hnews,Qf ⟨f2.symm,by rw[zQp,←Qz];exact Qn _ (by omega),zXc _ _⟩]
  rw[zQy,←yQt];simp only[VObj.ho,Qa,Je];refine⟨trivial, ?_⟩;congr 2;show _=(dss.set k (zQd (dss.getD k []) off (ys.take (min ys.length n)))).map (vecC c'');rw[Jb]
def zQe(m:List Nat)(h h':zQa):Prop:=h.length≤h'.length∧∀b,b<h.length→b∉m→h'[b]?=h[b]?
theorem zQe.refl(m:List Nat)(h:zQa):zQe m h h:=⟨Qe _,fun _ _ _=>rfl⟩
theorem zQe.trans{m m':List Nat}{h h1 h2:zQa}(a:zQe m h h1)(b:zQe m' h1 h2)(hm:∀x∈m,x∈m'):zQe m' h h2:=
 ⟨Kf a.1 b.1,fun x hx hn=>(b.2 x (Kt hx a.1) hn).trans (a.2 x hx fun y=>hn (hm x y))⟩
theorem zQe.push{m:List Nat}{h h1:zQa}(a:zQe m h h1)(k:zQa):zQe m h (h1++k):=
 ⟨by simp;have:=a.1;omega,fun b hb hn=>by rw[Qb (Kt hb a.1)];exact a.2 b hb hn⟩
theorem zQe.set{m:List Nat}{h:zQa}{b:Nat}(hb:b∈m)(o:VObj):zQe m h (h.set b o):=
 ⟨by simp,fun b' _ hn=>Qd fun e=>by subst e;exact hn hb⟩
theorem zQe.mono{m m':List Nat}{h h':zQa}(a:zQe m h h')(hm:∀x∈m,x∈m'):zQe m' h h':=⟨a.1,fun b hb hn=>a.2 b hb fun y=>hn (hm b y)⟩
theorem yJ9{t:TypeId}{x v:VV}{K:zQa→Option β}(he:yWm ty h t x v K=some r):∃h',K h'=some r∧zJd ty (hc h) t x.cv v.cv=some (hc h')∧zQe x.blk h h':=by
 have key2:yWm ty h t x v K=(yWm ty h t x v some).bind K:=by
  unfold yWm;split
  ·split
   ·split
    ·split<;>rfl
    ·split
     ·split
      ·split
       ·split<;>rfl
       ·rfl
      ·rfl
     ·split
      ·split
       ·split<;>rfl
       ·rfl
      ·rfl
     ·rfl
    ·rfl
   ·split
    ·split
     ·split
      ·split<;>rfl
      ·rfl
     ·rfl
    ·rfl
   ·split
    ·split
     ·split
      ·simp only[Z.bnd]
       split<;>rfl
      ·rfl
     ·rfl
    ·rfl
   ·split
    ·split
     ·split
      ·split
       ·split<;>rfl
       ·split
        ·simp only[Z.bnd]
         split<;>rfl
        ·rfl
      ·rfl
     ·rfl
    ·rfl
   ·rfl
   ·rfl
  ·rfl
 cases hs:yWm ty h t x v some with
 |none=>rw[key2,hs]at he;simp at he
 | some h'=>
  rw[key2,hs]at he;obtain⟨h'',e1,e2⟩:=vQk hs;simp only[Qa]at e1;subst e1;refine⟨_,he,e2, ?_⟩;unfold yWm at hs;split at hs<;>(try (simp at hs;done))
  split at hs<;>(try (simp at hs;done))
  ·split at hs<;>(try (simp at hs;done))
   ·split at hs<;>(try (simp at hs;done))
    simp at hs;subst hs;exact zQe.set (by simp[VV.blk]) _
   ·split at hs<;>(try (simp at hs;done))
    ·split at hs<;>(try (simp at hs;done))
     split at hs<;>(try (simp at hs;done))
     split at hs<;>(try (simp at hs;done))
     simp at hs;subst hs;exact zQe.set (by simp[VV.blk]) _
    ·split at hs<;>(try (simp at hs;done))
     split at hs<;>(try (simp at hs;done))
     split at hs<;>(try (simp at hs;done))
     simp at hs;subst hs;exact zQe.set (by simp[VV.blk]) _
  ·split at hs<;>(try (simp at hs;done))
   split at hs<;>(try (simp at hs;done))
   split at hs<;>(try (simp at hs;done))
   split at hs<;>(try (simp at hs;done))
   simp at hs;subst hs;exact zQe.set (by simp[VV.blk]) _
  ·split at hs<;>(try (simp at hs;done))
   split at hs<;>(try (simp at hs;done))
   split at hs<;>(try (simp at hs;done))
   simp only[Z.bnd]at hs;split at hs<;>(try (simp at hs;done))
   simp at hs;subst hs;exact zQe.set (by simp[VV.blk]) _
  ·split at hs<;>(try (simp at hs;done))
   split at hs<;>(try (simp at hs;done))
   split at hs<;>(try (simp at hs;done))
   split at hs
   ·split at hs<;>(try (simp at hs;done))
    simp[Z.bnd]at hs;subst hs;exact zQe.set (by simp[VV.blk]) _
   ·split at hs<;>(try (simp at hs;done))
    simp only[Z.bnd]at hs;split at hs<;>(try (simp at hs;done))
    simp at hs;subst hs;exact zQe.set (by simp[VV.blk]) _
end
end Go.Eng
/- What the evaluator over typed values needs besides: what stays, weaker values, places that are cut off. -/
namespace Go.Eng
set_option linter.unusedVariables false
section
variable {β:Type} {ty:Ty} {h:zQa} {r:β}
theorem xQu{e:TypeId}{j:TI}{x:VV}{c:C}{k:List (El c)→Option β}(he:srcV ty h e j x c k=some r):∃ds,k ds=some r∧∀{γ:Type} (k':List (El c)→Option γ),srcV ty h e j x c k'=k' ds:=by
 unfold srcV at he⊢;split at he<;>(try (simp at he;done))
 rename_i hf;split at he<;>(try (simp at he;done))
 ·split at he<;>(try (simp at he;done))
  rename_i hcc;exact⟨_,he,fun k'=>by simp[hf,hcc]⟩
 ·exact⟨_,he,fun k'=>by simp[hf]⟩
 ·split at he<;>(try (simp at he;done))
  ·rename_i hb
   split at he<;>(try (simp at he;done))
   rename_i h1;split at he<;>(try (simp at he;done))
   rename_i h2;split at he<;>(try (simp at he;done))
   rename_i h3;exact⟨_,he,fun k'=>by simp only[hf,if_true,h1,dif_pos h2];rw[Qf h3]⟩
  ·split at he<;>(try (simp at he;done))
   rename_i h1;split at he<;>(try (simp at he;done))
   rename_i h2;split at he<;>(try (simp at he;done))
   rename_i ds hds;exact⟨_,he,fun k'=>by simp only[Qf hf,Qf h1,Qf h2]⟩
 ·split at he<;>(try (simp at he;done))
  rename_i hb;split at he<;>(try (simp at he;done))
  rename_i h1;split at he<;>(try (simp at he;done))
  rename_i h2;split at he<;>(try (simp at he;done))
  rename_i h3;exact⟨_,he,fun k'=>by simp only[hf,if_true,dif_pos h1,dif_pos h2,Z.bnd];rw[Qf h3]⟩
 ·split at he<;>(try (simp at he;done))
  rename_i hd;split at he<;>(try (simp at he;done))
  rename_i hcc;exact⟨_,he,fun k'=>by simp only[hf,if_true];rw[dif_pos hcc]⟩
theorem yK6{t u:TypeId}{s x:VV}{K:VV→zQa→Option β}(he:yZ3 ty h t u s x K=some r):
  ∃v h',K v h'=some r∧zXk true ty (hc h) t u s.cv x.cv=some (v.cv,hc h')∧zQe s.blk h h':=by
 have key:∃v h',K v h'=some r∧yZ3 ty h t u s x (fun v h=>some (v,h))=some (v,h')∧zQe s.blk h h':=by
  unfold yZ3 at he⊢;split at he<;>(try (simp at he;done))
  split at he<;>(try (simp at he;done))
  rename_i hd;split at he<;>(try (simp at he;done))
  rename_i hj hcc;split at he<;>(try (simp at he;done))
  rename_i hcond;simp only[Qf hcond];obtain⟨ys,h1,e1⟩:=xQu he;obtain⟨xs,h2,e2⟩:=xQu h1;simp only[e1,e2];split at h2
  ·cases h2
  rename_i hbig;simp only[Qi hbig];split at h2<;>(try (simp at h2;done))
  ·split at h2
   ·split at h2
    ·rename_i hx0
     exact⟨_,_,h2,by rw[Qf hx0],(zQe.refl _ _).push _⟩
    ·rename_i hx0
     split at h2
     ·rename_i hy0
      exact⟨_,_,h2,by rw[Qi hx0,Qf hy0],zQe.refl _ _⟩
     ·rename_i hy0
      exact⟨_,_,h2,by rw[Qi hx0,Qi hy0],(zQe.refl _ _).push _⟩
   ·split at h2<;>(try (simp at h2;done))
    rename_i k;split at h2<;>(try (simp at h2;done))
    rename_i v0 hk;split at h2<;>(try (simp at h2;done))
    rename_i hv0;exact⟨_,_,h2,by rw[Qf hv0],zQe.set (by simp[VV.blk]) _⟩
  ·exact⟨_,_,h2,rfl,(zQe.refl _ _).push _⟩
  ·exact⟨_,_,h2,rfl,(zQe.set (by simp[VV.blk]) _).push _⟩
 obtain⟨v,h',k1,k2,k3⟩:=key;obtain⟨v2,h2,e1,e2⟩:=wYs k2;simp only[Qa,Je]at e1;obtain⟨rfl,rfl⟩:=e1;exact⟨_,_,k1,e2,k3⟩
theorem wZk{t:TypeId}{d s:VV}{K:VV→zQa→Option β}(he:copyV ty h t d s K=some r):
  ∃v h',K v h'=some r∧wWb ty (hc h) t d.cv s.cv=some (v.cv,hc h')∧zQe d.blk h h':=by
 have key:∃v h',K v h'=some r∧copyV ty h t d s (fun v h=>some (v,h))=some (v,h')∧zQe d.blk h h':=by
  unfold copyV at he⊢;split at he<;>(try (simp at he;done))
  split at he<;>(try (simp at he;done))
  rename_i hd;split at he<;>(try (simp at he;done))
  rename_i hj hcc;obtain⟨ys,h1,e1⟩:=xQu he;simp only[e1];split at h1<;>(try (simp at h1;done))
  ·split at h1<;>(try (simp at h1;done))
   rename_i hb;split at h1<;>(try (simp at h1;done))
   rename_i g1;split at h1<;>(try (simp at h1;done))
   rename_i g2;split at h1<;>(try (simp at h1;done))
   rename_i g3;exact⟨_,_,h1,by simp only[Qf g1,dif_pos g2];rw[Qf g3],zQe.set (by simp[VV.blk]) _⟩
  ·split at h1<;>(try (simp at h1;done))
   rename_i hb;split at h1<;>(try (simp at h1;done))
   rename_i g1;split at h1<;>(try (simp at h1;done))
   rename_i g2;split at h1<;>(try (simp at h1;done))
   rename_i g3;exact⟨_,_,h1,by simp only[dif_pos g1,dif_pos g2,Z.bnd];rw[Qf g3],zQe.set (by simp[VV.blk]) _⟩
 obtain⟨v,h',k1,k2,k3⟩:=key;obtain⟨v2,h2,e1,e2⟩:=vJy k2;simp only[Qa,Je]at e1;obtain⟨rfl,rfl⟩:=e1;exact⟨_,_,k1,e2,k3⟩
theorem vQt{H:Heap}{j:TI}{esz b off cap:Nat}{ex:Bool}{ys:List CV}(h:srcE H j (.sref esz b off 0 cap ex)=some ys):ys=[]:=by
 simp only[srcE]at h;split at h<;>(try (simp at h;done))
 split at h<;>(try (simp at h;done))
 simp[chunks]at h;exact h
theorem uQi{e:TypeId}{j:TI}{s:VV}{c:C}{K:List (El c)→Option β}(he:srcS ty h e j s c K=some r):∃ds,K ds=some r∧srcE (hc h) j s.cv=some (ds.map (valC c)):=by
 unfold srcS at he;split at he
 ·split at he
  ·exact zZ6 he
  ·split at he
   ·split at he<;>(try (simp at he;done))
    split at he<;>(try (simp at he;done))
    obtain⟨ds,h1,h2⟩:=zZ6 he;refine⟨[],h1, ?_⟩;have h3:=h2;simp only[VV.cv]at h3;have:=vQt h3;rw[h2,this];rfl
   ·exact zZ6 he
 ·exact zZ6 he
theorem xZ4{t u:TypeId}{s x:VV}{K:VV→zQa→Option β}(he:xYe ty h t u s x K=some r):
  ∃v h',K v h'=some r∧zXk false ty (hc h) t u s.cv x.cv=some (v.cv,hc h')∧zQe s.blk h h':=by
 unfold xYe at he;split at he<;>(try (simp at he;done))
 rename_i i iu hi hiu;split at he<;>(try (simp at he;done))
 rename_i e hd;split at he<;>(try (simp at he;done))
 rename_i j c hj hcc;split at he<;>(try (simp at he;done))
 rename_i hcond;have hfit:fitC j c=true:=zYo he;obtain⟨ys,h1,e1⟩:=zZ6 he;obtain⟨xs,h2,e2⟩:=uQi h1;obtain⟨f1,f2,f3⟩:=zXv hfit;have hn1:¬2^30<j.bytes:=hcond.2
 have happ:∀y,appC (hc h) j iu.desc y=srcE (hc h) j y:=fun y=>by unfold appC;rw[hcond.1];rfl
 have hones:((xs.map (valC c)++ys.map (valC c)).flatMap CV.flat).all CV.one=true:=by
  rw[←Qw,Q6];exact zXc c (xs++ys)
 have hflat:(xs.map (valC c)++ys.map (valC c)).flatMap CV.flat=vecC c (xs++ys):=by
  rw[←Qw,Q6];rfl
 unfold zXk;simp only[hi,hiu,hd,hj];rw[Qi hn1];simp only[happ,e1,e2];split at h2
 ·rename_i hz
  have hys:ys=[]:=Qr.1 hz;subst hys;rw[Qf ⟨by simp,rfl⟩]
  split at h2<;>(try (simp at h2;done))
  ·exact⟨_,_,h2,rfl,zQe.refl _ _⟩
  ·exact⟨_,_,h2,rfl,zQe.refl _ _⟩
  ·exact⟨_,_,h2,rfl,zQe.refl _ _⟩
 ·rename_i hz
  have hys:ys.map (valC c)≠[]:=by
   intro e;have:ys=[]:=by simpa using e
   exact hz (by rw[this];rfl)
  rw[Qi (fun h=>hys h.1)]
  split at h2
  ·cases h2
  rename_i hbig;have hbig':¬(2^44<((xs.map (valC c)).length+(ys.map (valC c)).length)*(j.bytes+1)∨(!((xs.map (valC c)++ys.map (valC c)).flatMap CV.flat).all CV.one)=true):=by
   rintro(h|h)
   ·exact hbig (by simpa only[Qh]using h)
   ·rw[hones]at h;exact absurd h (by decide)
  rw[Qi hbig'];split at h2<;>(try (simp at h2;done))
  ·split at h2<;>(try (simp at h2;done))
   refine⟨_,_,h2, ?_,(zQe.refl _ _).push _⟩;simp only[VV.cv,if_true,Jv,if_false,hflat];simp[f2,hc,VObj.ho]
  ·refine⟨_,_,h2, ?_,(zQe.refl _ _).push _⟩
   simp only[VV.cv,if_true,Jv,if_false,hflat];simp[f2,hc,VObj.ho]
  ·refine⟨_,_,h2, ?_,(zQe.set (by simp[VV.blk]) _).push _⟩
   simp only[VV.cv,Jv,if_false,hflat];simp[f2,hc,VObj.ho,Jb]
theorem xZ3{t u:TypeId}{s x:VV}{K:VV→zQa→Option β}(he:xYd ty h t u s x K=some r):
  ∃v h',K v h'=some r∧zXk false ty (hc h) t u s.cv x.cv=some (v.cv,hc h')∧zQe s.blk h h':=by
 unfold xYd at he;split at he<;>(try (simp at he;done))
 rename_i i iu hi hiu;split at he<;>(try (simp at he;done))
 rename_i e hd;split at he<;>(try (simp at he;done))
 rename_i j c hj hcc;split at he<;>(try (simp at he;done))
 rename_i hcond;obtain⟨hint,hn1,hzd⟩:=hcond;split at he<;>(try (simp at he;done))
 rename_i kn n;have hfit:fitC j c=true:=zYo he;obtain⟨xs,h2,e2⟩:=zZ6 he;split at h2<;>(try (simp at h2;done))
 rename_i hzk;have hzk':=Z.xYi.1 hzk;have e1:appC (hc h) j iu.desc (VV.int kn n).cv=some ((List.replicate n.toNat (dfl c)).map (valC c)):=by
  unfold vZ8 at hzd;split at hzd<;>(try (simp at hzd;done))
  rename_i z hz;have:=CV.same_eq _ _ hzd;subst this;unfold appC;rw[Qf hint];simp only[VV.cv,hz];rw[Qf hzk',Wb]
 have hb0:∀k:List (El c)→Option β,Z.bnd (Z.rep (Z.toN n) (dfl c)) k=k (Z.rep (Z.toN n) (dfl c)):=fun _=>rfl
 rw[hb0]at h2;have e1:appC (hc h) j iu.desc (VV.int kn n).cv=some ((Z.rep (Z.toN n) (dfl c)).map (valC c)):=e1;generalize Z.rep (Z.toN n) (dfl c)=ys at e1 h2
 obtain⟨f1,f2,f3⟩:=zXv hfit;have hones:((xs.map (valC c)++ys.map (valC c)).flatMap CV.flat).all CV.one=true:=by
  rw[←Qw,Q6];exact zXc c (xs++ys)
 have hflat:(xs.map (valC c)++ys.map (valC c)).flatMap CV.flat=vecC c (xs++ys):=by
  rw[←Qw,Q6];rfl
 unfold zXk;simp only[hi,hiu,hd,hj];rw[Qi hn1];simp only[e1,e2];split at h2
 ·cases h2
 ·rename_i hz
  have hys:ys.map (valC c)≠[]:=by
   intro e;have:ys=[]:=by simpa using e
   exact hz (by rw[this];rfl)
  rw[Qi (fun h=>hys h.1)]
  split at h2
  ·cases h2
  rename_i hbig;have hbig':¬(2^44<((xs.map (valC c)).length+(ys.map (valC c)).length)*(j.bytes+1)∨(!((xs.map (valC c)++ys.map (valC c)).flatMap CV.flat).all CV.one)=true):=by
   rintro(h|h)
   ·exact hbig (by simpa only[Qh]using h)
   ·rw[hones]at h;exact absurd h (by decide)
  rw[Qi hbig'];split at h2<;>(try (simp at h2;done))
  ·split at h2<;>(try (simp at h2;done))
   refine⟨_,_,h2, ?_,(zQe.refl _ _).push _⟩;simp only[VV.cv,if_true,Jv,if_false,hflat];simp[f2,hc,VObj.ho]
  ·refine⟨_,_,h2, ?_,(zQe.refl _ _).push _⟩
   simp only[VV.cv,if_true,Jv,if_false,hflat];simp[f2,hc,VObj.ho]
  ·refine⟨_,_,h2, ?_,(zQe.set (by simp[VV.blk]) _).push _⟩
   simp only[VV.cv,Jv,if_false,hflat];simp[f2,hc,VObj.ho,Jb]
theorem xXe{t u:TypeId}{s x:VV}{K:VV→zQa→Option β}(he:xQh ty h t u s x K=some r):
  ∃v h',K v h'=some r∧zXk true ty (hc h) t u s.cv x.cv=some (v.cv,hc h')∧zQe s.blk h h':=by
 unfold xQh at he;split at he<;>(try (simp at he;done))
 rename_i i iu hi hiu;split at he<;>(try (simp at he;done))
 rename_i e hd;split at he<;>(try (simp at he;done))
 rename_i j c hj hcc;split at he<;>(try (simp at he;done))
 rename_i hcond;obtain⟨hint,hn1,hzd⟩:=hcond;split at he<;>(try (simp at he;done))
 rename_i kn n;have hfit:fitC j c=true:=zYo he;obtain⟨xs,h1,e2⟩:=zZ6 he;have h2:=h1;split at h2<;>(try (simp at h2;done))
 rename_i hzk;have hzk':=Z.xYi.1 hzk;have e1:appC (hc h) j iu.desc (VV.int kn n).cv=some ((List.replicate n.toNat (dfl c)).map (valC c)):=by
  unfold vZ8 at hzd;split at hzd<;>(try (simp at hzd;done))
  rename_i z hz;have:=CV.same_eq _ _ hzd;subst this;unfold appC;rw[Qf hint];simp only[VV.cv,hz];rw[Qf hzk',Wb]
 have hb0:∀k:List (El c)→Option β,Z.bnd (Z.rep (Z.toN n) (dfl c)) k=k (Z.rep (Z.toN n) (dfl c)):=fun _=>rfl
 rw[hb0]at h2;have e1:appC (hc h) j iu.desc (VV.int kn n).cv=some ((Z.rep (Z.toN n) (dfl c)).map (valC c)):=e1;generalize Z.rep (Z.toN n) (dfl c)=ys at e1 h2
 obtain⟨f1,f2,f3⟩:=zXv hfit;have hones:((xs.map (valC c)++ys.map (valC c)).flatMap CV.flat).all CV.one=true:=by
  rw[←Qw,Q6];exact zXc c (xs++ys)
 unfold zXk;simp only[hi,hiu,hd,hj];rw[Qi hn1];simp only[e1,e2];split at h2
 ·cases h2
 rename_i hbig;have hbig':¬(2^44<((xs.map (valC c)).length+(ys.map (valC c)).length)*(j.bytes+1)∨(!((xs.map (valC c)++ys.map (valC c)).flatMap CV.flat).all CV.one)=true):=by
  rintro(h|h)
  ·exact hbig (by simpa only[Qh]using h)
  ·rw[hones]at h;exact absurd h (by decide)
 split at h2<;>(try (simp at h2;done))
 ·rename_i c' ds' tok full
  split at h2<;>(try (simp at h2;done))
  split at h2<;>(try (simp at h2;done))
  rename_i k;split at h2<;>(try (simp at h2;done))
  rename_i v0 hk;split at h2<;>(try (simp at h2;done))
  rename_i hv0;refine⟨_,_,h2, ?_,zQe.set (by simp[VV.blk]) _⟩
  have hk':(hc h)[k]?=some (.tail v0):=by rw[zQ6,hk];rfl
  have hcs:c'.cells=j.size:=by
   have:=vQs he;subst this;exact f2.symm
  have res:some (CV.slice j.size (xs.map (valC c)++ys.map (valC c)) (some k) false,(hc h).set k (HObj.tail ((xs.map (valC c)).length+(ys.map (valC c)).length)))=
    some ((VV.sl c (xs++ys) (some k) false).cv,hc (h.set k (.tail (xs++ys).length))):=by
   simp[VV.cv,zQy,f2,VObj.ho]
  have hsr:zKz (VV.sl c' ds' (some k) false).cv=false:=rfl;by_cases hy:ys.map (valC c)=[]
  ·rw[Qf ⟨hy,by rw[hsr];rfl⟩]
   simp only[VV.cv,if_true,Jv,if_false,hk'];rw[Qf ⟨by simpa using hv0,hcs⟩]
   exact res
  ·rw[Qi (fun h=>hy h.1),Qi hbig']
   simp only[VV.cv,Jv,if_false,hk'];rw[Qf ⟨by simpa using hv0,hcs⟩]
   exact res
 ·have hsr:zKz VV.nsl.cv=false:=rfl
  refine⟨_,_,h2, ?_,(zQe.refl _ _).push _⟩;have res:some (CV.slice j.size (xs.map (valC c)++ys.map (valC c)) (some (hc h).length) false,hc h++[HObj.tail ((xs.map (valC c)).length+(ys.map (valC c)).length)])=
    some ((VV.sl c (xs++ys) (some h.length) false).cv,hc (h++[.tail (xs++ys).length])):=by
   simp[VV.cv,f2,hc,VObj.ho]
  have hx:xs.map (valC c)=[]:=by
   have e3:=e2;simp only[srcE,VV.cv]at e3;split at e3<;>simp at e3;simp[e3]
  by_cases hy:ys.map (valC c)=[]
  ·rw[Qf ⟨hy,by rw[hsr];rfl⟩]
   simp only[VV.cv,if_true];rw[Qf hx];exact res
  ·rw[Qi (fun h=>hy h.1),Qi hbig']
   simp only[VV.cv,if_true];exact res
theorem xJc{t:TypeId}{m k v:VV}{K:zQa→Option β}(he:yJo ty h t m k v K=some r):∃h',K h'=some r∧zKf ty (hc h) t m.cv k.cv v.cv=some (hc h')∧zQe m.blk h h':=by
 unfold yJo at he;split at he<;>(try (simp at he;done))
 rename_i k1 k2 hm;obtain⟨i,kt,e,jk,j,h1,h2,h3,h4,h5,h6⟩:=yJp hm;split at he<;>(try (simp at he;done))
 rename_i b k0 n k3 x;split at he<;>(try (simp at he;done))
 rename_i j1 j2 es hb;split at he<;>(try (simp at he;done))
 rename_i hk;obtain⟨rfl,rfl,rfl,rfl⟩:=hk;refine⟨_,he, ?_,zQe.set (Jg ..) _⟩;unfold zKf;simp only[VV.cv,h1,h2,h3,h5,plainKey,if_true,vYv hb,yZv];cases hf:Z.wQr n es 0 with
 |none=>simp[Z.mput,hf,zQy,VObj.ho,entC]
 |some q=>simp[Z.mput,hf,zQy,VObj.ho,entC,Jb]
def noSr:CV→Bool
 | .sref _ _ _ _ _ _=>false
 |_=>true
theorem wQ1(c:CV):zKz c=!noSr c:=by cases c<;>rfl
theorem wQq{α:Type}(b sz:Nat)(f:α→CV)(d:MixE α):noSr (mixC b sz f d)=true:=by cases d<;>rfl
theorem yZ7:∀(c:C) (d:El c),(valC c d).flat.all noSr=true
 | .mix b c,d=>by simp only[valC,zWd,J7,wQq,List.all_nil,Wg]
 | .bool,b=>rfl
 | .int k,n=>rfl
 | .str,s=>rfl
 | .list c,ds=>rfl
 | .unit,_=>rfl
 | .pair a b,d=>by simp only[valC,flat_agg,List.all_append,yZ7 a d.1,yZ7 b d.2,Wg]
 | .arr n c,ds=>by
  simp only[valC,flat_agg,Qq];intro x hx;obtain⟨i,_,hi⟩:=J0.1 hx;exact Qq.1 (yZ7 c _) x hi
theorem wY9(c:C)(ds:List (El c)):(vecC c ds).any zKz=false:=by
 rw[Kx];intro x hx;obtain⟨d,_,hd⟩:=J0.1 hx;have:=Qq.1 (yZ7 c d) x hd;rw[wQ1,this];simp
theorem wKf(v:VV):zKz v.cv=srA v:=by
 cases v<;>try rfl
 exact by rw[wQ1];simp[VV.cv,valC,wQq,srA]
theorem vJr{c0:C}{b j:Nat}{K:zQa→Option β}(he:uXa c0 b j h K=some r):∃h1,K h1=some r∧frz1 b j (hc h)=some (hc h1)∧
  ∀m,b∈m→(∀vs,h[b]?=some (.cells vs)→∀v∈vs,srA v=true→∀y∈v.blk,y∈m)→zQe m h h1∧∀vs,h1[b]?=some (.cells vs)→∀v∈vs,srA v=true→∀y∈v.blk,y∈m:=by
 unfold uXa at he;split at he<;>(try (simp at he;done))
 rename_i vs hb;have hlt:b<h.length:=(List.getElem?_eq_some_iff.1 hb).1;have hget:∀v,vs[j]?=some v→(vs.map VV.cv)[j]?=some v.cv:=fun v hv=>by rw[Qt,hv];rfl
 split at he
 ·rename_i b1 off len cap ex c hj
  split at he<;>(try (simp at he;done))
  rename_i c' ds hb1;split at he<;>(try (simp at he;done))
  rename_i hcond;obtain⟨q1,rfl,q3,q4⟩:=hcond;split at he<;>(try (simp at he;done))
  rename_i hle;replace hle:off+len≤ds.length:=hle;refine⟨_,he, ?_,fun m hm hv=>⟨?_, ?_⟩⟩
  ·have hflat:∀d:El c',(valC c' d).flat=[valC c' d]:=fun d=>by
    cases c'<;>simp[C.agg]at q4<;>first|rfl|exact zWd _ _ _ _
   have hvec:vecC c' ds=ds.map (valC c'):=by
    unfold vecC;rw[show(fun d=>(valC c' d).flat)=fun d=>[valC c' d]from funext hflat]
    exact(List.map_eq_flatMap ..).symm
   unfold frz1;rw[zWm hb];simp only[hget _ hj,VV.cv,zWr hb1];rw[Qf ⟨q1,q3,by rw[zQp,q3];omega,zXc c' ds⟩]
   rw[zQy,zQy];simp only[VObj.ho,Jb,VV.cv,q3,Wf];rw[hvec];simp[Z.seg]
  ·exact(zQe.set (m:=m) (b:=b1) (hv vs hb _ (Ql hj) rfl b1 (by simp[VV.blk])) .dead).trans (zQe.set (m:=m) hm _) (fun _ h=>h)
  ·intro vs1 h1 v hv1 hs y hy
   rw[Qk (by simpa using hlt)]at h1
   simp only[Qa,VObj.cells.injEq]at h1;subst h1;rcases Wo hv1 with h2|h2
   ·exact hv vs hb v h2 hs y hy
   ·subst h2;simp[srA]at hs
 ·rename_i hj
  split at he<;>(try (simp at he;done))
  rename_i c' hcc;split at he<;>(try (simp at he;done))
  rename_i hc1;refine⟨_,he, ?_,fun m hm hv=>⟨zQe.set hm _, ?_⟩⟩
  ·unfold frz1
   rw[zWm hb];simp only[hget _ hj,VV.cv];rw[zQy];simp[VObj.ho,Jb,VV.cv,hc1]
  ·intro vs1 h1 v hv1 hs y hy
   rw[Qk hlt]at h1;simp only[Qa,VObj.cells.injEq]at h1;subst h1;rcases Wo hv1 with h2|h2
   ·exact hv vs hb v h2 hs y hy
   ·subst h2;simp[srA]at hs
 ·cases he
 ·cases he
 ·rename_i hno hno2 hno3 hno4
  refine⟨_,he, ?_,fun m hm hv=>⟨zQe.refl _ _,hv⟩⟩
  unfold frz1;rw[zWm hb];cases hj:vs[j]? with
  |none=>simp[hj]
  | some v=>
   simp only[hget _ hj];split
   ·rename_i e
    simp only[Qa]at e;have h1:=wKf v;rw[e]at h1;cases v<;>simp[srA,zKz]at h1;exact absurd hj (by intro h;exact hno _ _ _ _ _ _ h)
   ·rename_i e
    simp only[Qa]at e;cases v<;>simp[VV.cv,zWt,valC]at e
    ·exact absurd hj (by intro h;exact hno2 h)
    ·obtain⟨_,_,rfl,rfl⟩:=e
     exact absurd hj (by intro h;exact hno3 _ _ h)
    ·exact absurd hj (by intro h;exact hno4 _ _ _ h)
   ·rfl
theorem wJf{c0:C}{b:Nat}:∀{js:List Nat} {h:zQa} {K:zQa→Option β},uW6 c0 b js h K=some r→∃h1,K h1=some r∧frzN b js (hc h)=some (hc h1)∧
  ∀m,b∈m→(∀vs,h[b]?=some (.cells vs)→∀v∈vs,srA v=true→∀y∈v.blk,y∈m)→zQe m h h1
 |[],h,K,he=>⟨h,he,rfl,fun m _ _=>zQe.refl _ _⟩
 |j::js,h,K,he=>by
  obtain⟨h1,e1,e2,e3⟩:=vJr he;obtain⟨h2,g1,g2,g3⟩:=wJf e1;refine⟨h2,g1,by simp only[frzN,e2,g2],fun m hm hv=>?_⟩
  obtain⟨s1,s2⟩:=e3 m hm hv;exact s1.trans (g3 m hm s2) fun _ h=>h
theorem wX7{x:VV}{K:zQa→Option β}(he:frzX h x K=some r):∃h1,K h1=some r∧(∀lit t u s,zYk lit ty (hc h) t u s x.cv=zXk lit ty (hc h1) t u s x.cv)∧zQe (xX7 h x) h h1:=by
 have none_ok:xK8 (hc h) x.cv=none→K h=some r→∃h1,K h1=some r∧(∀lit t u s,zYk lit ty (hc h) t u s x.cv=zXk lit ty (hc h1) t u s x.cv)∧zQe (xX7 h x) h h1:=
  fun hn hk=>⟨h,hk,fun lit t u s=>by unfold zYk;rw[hn],zQe.refl _ _⟩
 unfold frzX at he;split at he
 ·rename_i b off len cap ex c
  split at he
  ·rename_i vs hb
   have hany:(vs.map VV.cv).any zKz=vs.any srA:=by
    rw[List.any_map];congr 1;funext v;exact wKf v
   split at he
   ·rename_i ha
    obtain⟨h1,g1,g2,g3⟩:=wJf he;refine⟨h1,g1,fun lit t u s=>?_, ?_⟩
    ·have hn:xK8 (hc h) (VV.sref b off len cap ex c).cv=some (b,vs.length):=by
      simp only[xK8,VV.cv,zWm hb,hany,ha,if_true,Qh]
     unfold zYk;rw[hn];simp only[g2]
    ·have ht:xX7 h (VV.sref b off len cap ex c)=b::vs.flatMap blkA:=by
      simp only[xX7,hb,ha]
     rw[ht];refine g3 _ (Jg ..) fun vs1 h2 v hv hs y hy=>?_
     rw[hb]at h2;simp only[Qa,VObj.cells.injEq]at h2;subst h2;exact Qp _ (J0.2 ⟨v,hv,by unfold blkA;rw[hs];exact hy⟩)
   ·rename_i ha
    exact none_ok (by simp only[xK8,VV.cv,zWm hb,hany,ha];simp) he
  ·rename_i hno
   refine none_ok ?_ he;simp only[xK8,VV.cv];cases hb:h[b]? with
   |none=>rw[zQ6,hb];rfl
   |some o=>
    rw[zQ6,hb];cases o<;>simp only[Ju,VObj.ho]
    ·exact absurd hb (hno _)
    ·rw[wY9];simp
 ·rename_i hno
  refine none_ok ?_ he;have h1:=wKf x;unfold xK8;split
  ·rename_i e
   rw[e]at h1;cases x<;>simp[srA,zKz]at h1;exact absurd rfl (hno _ _ _ _ _ _)
  ·rfl
theorem wZw:∀c:C,zfp c=zfl c
 | .mix _ _=>rfl
 | .pair a b=>by rw[zfp,zfl,wZw a,wZw b]
 | .bool=>rfl
 | .int _=>rfl
 | .str=>rfl
 | .list _=>rfl
 | .unit=>rfl
 | .arr _ _=>rfl
theorem vYe{e:TypeId}{j:TI}{d:TypeDesc}{x:VV}{c:C}{K:List (El c)→Option β}(he:ysV ty h e j d x c K=some r):∃ys,K ys=some r∧appW (hc h) j d x.cv=some (ys.map (valC c)):=by
 unfold ysV at he;split at he
 ·rename_i hd
  obtain⟨ys,h1,e1⟩:=zZ6 he;refine⟨ys,h1, ?_⟩;unfold appW appC;rw[hd];simp[e1]
 ·rename_i hd
  split at he<;>(try (simp at he;done))
  rename_i hz;split at he<;>(try (simp at he;done))
  rename_i kn n;split at he<;>(try (simp at he;done))
  rename_i hzk;refine⟨_,he, ?_⟩;have hzk':=Z.xYi.1 hzk;unfold zeroW at hz;split at hz<;>(try (simp at hz;done))
  rename_i z hzv;have hw:=CV.same_eq _ _ hz;unfold appW appC;rw[Qf hd];simp only[VV.cv,hzv];rw[Qf hzk'];simp only[hd,if_true,Wb,hw,wZw]
theorem xXf{g:Bool}{t u:TypeId}{s x:VV}{K:VV→zQa→Option β}(he:xQi g ty h t u s x K=some r):
  ∃v h',K v h'=some r∧yJ5 ty (hc h) t u s.cv x.cv=some (v.cv,hc h')∧zQe s.blk h h':=by
 unfold xQi at he;split at he<;>(try (simp at he;done))
 rename_i i iu hi hiu;split at he<;>(try (simp at he;done))
 rename_i e hd;split at he<;>(try (simp at he;done))
 rename_i j c hj hcc;split at he<;>(try (simp at he;done))
 rename_i hn1;obtain⟨ys,h1,e1⟩:=vYe he;have hfit:fitC j c=true:=zYo h1;obtain⟨xs,h2,e2⟩:=zZ6 h1;split at h2<;>(try (simp at h2;done))
 rename_i b off len cap ex c';split at h2<;>(try (simp at h2;done))
 rename_i c'' ds hb;split at h2<;>(try (simp at h2;done))
 rename_i hcc2;obtain⟨rfl,rfl⟩:=hcc2;split at h2<;>(try (simp at h2;done))
 rename_i hbig;obtain⟨f1,f2,f3⟩:=zXv hfit;have hones:((xs.map (valC c')++ys.map (valC c')).flatMap CV.flat).all CV.one=true:=by
  rw[←Qw,Q6];exact zXc c' (xs++ys)
 have hbig':¬(2^44<((xs.map (valC c')).length+(ys.map (valC c')).length)*(j.bytes+1)∨(!((xs.map (valC c')++ys.map (valC c')).flatMap CV.flat).all CV.one)=true):=by
  rintro(h|h)
  ·exact hbig (by simpa only[Qh]using h)
  ·rw[hones]at h;exact absurd h (by decide)
 have e2':srcE (hc h) j (.sref c'.cells b (off*c'.cells) len cap ex)=some (xs.map (valC c')):=e2;unfold yJ5;simp only[hi,hiu,hd,hj];rw[Qi hn1];simp only[VV.cv,e1,e2',zWr hb]
 rw[Qi hbig'];have hyl:(ys.map (valC c')).length=ys.length:=by simp
 rw[hyl];split at h2
 ·rename_i hle
  split at h2<;>(try (simp at h2;done))
  split at h2<;>(try (simp at h2;done))
  rename_i hin;replace hin:off+(len+ys.length)≤ds.length:=hin;refine⟨_,_,h2, ?_,zQe.set (by simp[VV.blk]) _⟩
  rw[Qf hle];rw[Qf (by rw[zQp,←Qz];exact Qn _ hin)]
  simp only[zQy,VObj.ho,VV.cv,Qa,Je];refine⟨trivial, ?_⟩;congr 2;show zQd (vecC c' ds) _ _=vecC c' (zQd ds (off+len) ys);rw[yQt,Qz,Q6];rfl
 ·rename_i hle
  split at h2<;>(try (simp at h2;done))
  split at h2<;>(try (simp at h2;done))
  refine⟨_,_,h2, ?_,(zQe.refl _ _).push _⟩;rw[Qi hle,Qf rfl];have hflat:(xs.map (valC c')++ys.map (valC c')).flatMap CV.flat=vecC c' (xs++ys):=by
   rw[←Qw,Q6];rfl
  rw[hflat];simp[VV.cv,hc,VObj.ho,f2]
theorem wZr{t u:TypeId}{s x:VV}{K:VV→zQa→Option β}(he:xYf ty h t u s x K=some r):
  ∃v h',K v h'=some r∧yJ3 ty (hc h) t u s.cv x.cv=some (v.cv,hc h')∧zQe s.blk h h':=by
 unfold xYf at he;split at he<;>(try (simp at he;done))
 rename_i i iu hi hiu;split at he<;>(try (simp at he;done))
 rename_i e hd;split at he<;>(try (simp at he;done))
 rename_i j c hj hcc;split at he<;>(try (simp at he;done))
 rename_i hn1;obtain⟨ys,h1,e1⟩:=vYe he;have hfit:fitC j c=true:=zYo h1;obtain⟨xs,h2,e2⟩:=zZ6 h1;split at h2<;>(try (simp at h2;done))
 rename_i b off len cap ex c';split at h2<;>(try (simp at h2;done))
 rename_i c'' ds hb;split at h2<;>(try (simp at h2;done))
 rename_i hcc2;obtain⟨rfl,rfl⟩:=hcc2;split at h2<;>(try (simp at h2;done))
 rename_i hbig;obtain⟨f1,f2,f3⟩:=zXv hfit;have hones:((xs.map (valC c')++ys.map (valC c')).flatMap CV.flat).all CV.one=true:=by
  rw[←Qw,Q6];exact zXc c' (xs++ys)
 have hbig':¬(2^44<((xs.map (valC c')).length+(ys.map (valC c')).length)*(j.bytes+1)∨(!((xs.map (valC c')++ys.map (valC c')).flatMap CV.flat).all CV.one)=true):=by
  rintro(h|h)
  ·exact hbig (by simpa only[Qh]using h)
  ·rw[hones]at h;exact absurd h (by decide)
 have e2':srcE (hc h) j (.sref c'.cells b (off*c'.cells) len cap ex)=some (xs.map (valC c')):=e2;unfold yJ3;simp only[hi,hiu,hd,hj];rw[Qi hn1];simp only[VV.cv,e1,e2',zWr hb]
 rw[Qi hbig'];have hyl:(ys.map (valC c')).length=ys.length:=by simp
 rw[hyl];split at h2
 ·rename_i hle
  refine⟨_,_,h2, ?_,zQe.set (by simp[VV.blk]) _⟩
  rw[Qf hle];simp only[zQy,VObj.ho,VV.cv,Qa,Je];refine⟨trivial, ?_⟩;congr 2;show zQd (vecC c' ds) _ _=vecC c' (zQd ds (off+len) ys);rw[yQt,Qz,Q6];rfl
 ·rename_i hle
  split at h2<;>(try (simp at h2;done))
  refine⟨_,_,h2, ?_,(zQe.refl _ _).push _⟩;rw[Qi hle,Qf rfl];have hflat:(xs.map (valC c')++ys.map (valC c')).flatMap CV.flat=vecC c' (xs++ys):=by
   rw[←Qw,Q6];rfl
  rw[hflat];simp[VV.cv,hc,VObj.ho,f2]
theorem vX5{t:TypeId}{d s:VV}{K:VV→zQa→Option β}(he:vX6 ty h t d s K=some r):
  ∃v h',K v h'=some r∧wYk ty (hc h) t d.cv s.cv=some (v.cv,hc h')∧zQe d.blk h h':=by
 unfold vX6 at he;split at he<;>(try (simp at he;done))
 rename_i i hi;split at he<;>(try (simp at he;done))
 rename_i e hd;split at he<;>(try (simp at he;done))
 rename_i j c b off len cap ex c' b2 off2 len2 cap2 ex2 c2' hj hcc;split at he<;>(try (simp at he;done))
 rename_i c1 ds c2 ds2 hb hb2;split at he<;>(try (simp at he;done))
 rename_i hcs;obtain⟨rfl,rfl,rfl,rfl,hfit⟩:=hcs;split at he<;>(try (simp at he;done))
 rename_i g1;split at he<;>(try (simp at he;done))
 rename_i g2;obtain⟨f1,f2,f3⟩:=zXv hfit;replace g1:off2+min len2 len≤ds2.length:=g1;replace g2:off≤ds.length:=g2;refine⟨_,_,he, ?_,zQe.set (by simp[VV.blk]) _⟩
 unfold wYk;simp only[hi,hd,hj,VV.cv,zWr hb,zWr hb2];have hn:((vecC c2' ds2).drop (off2*c2'.cells)).take (min len2 len*c2'.cells)=vecC c2' ((ds2.drop off2).take (min len2 len)):=by
  rw[zWh,zWp]
 simp only[f2];rw[hn];rw[Qf ⟨trivial,trivial,by rw[zQp,←Qz];exact Qn _ g1,by rw[zQp];exact Qn _ g2,zXc _ _⟩]
 simp only[zQy,VObj.ho,Z.put,yQt,Z.seg,Z.minN,Z.ofN]
theorem vZa{t:TypeId}{s:VV}{K:VV→zQa→Option β}(he:vZb ty h t s K=some r):
  ∃v h',K v h'=some r∧xW4 ty (hc h) t s.cv=some (v.cv,hc h')∧zQe s.blk h h':=by
 unfold vZb at he;split at he<;>(try (simp at he;done))
 rename_i i hi;split at he<;>(try (simp at he;done))
 rename_i e hd;split at he<;>(try (simp at he;done))
 rename_i j c hj hcc;split at he<;>(try (simp at he;done))
 rotate_left
 ·rename_i b c' dd
  split at he<;>(try (simp at he;done))
  rename_i hz;obtain⟨hz,hsz⟩:=hz;split at he<;>(try (simp at he;done))
  rename_i c'' dss hb;split at he<;>(try (simp at he;done))
  rename_i hcc2;obtain⟨rfl,rfl⟩:=hcc2;split at he<;>(try (simp at he;done))
  rename_i hx;replace hx:dd.xw dss=true:=hx;refine⟨_,_,he, ?_,zQe.set (by simp[VV.blk]) _⟩
  have hz':=CV.zX9 _ _ hz;have hone:(j.zero.map wz).all CV.one=true:=by rw[←hz'];exact zKi c' _
  cases dd with
  |data _=>simp[MixE.xw]at hx
  |nil=>simp[MixE.xw]at hx
  |ref k off n gen=>
  simp only[MixE.xw,Qc,decide_eq_true_eq,beq_iff_eq]at hx;obtain⟨q1,q2,q3⟩:=hx;unfold xW4;simp only[hi,hd,hj,VV.cv,valC,mixC,zJg hb q1 q2,zJn hb];rw[Qf ⟨hsz.symm,by rw[zQp,←Qz];exact Qn _ (by omega),hone⟩]
  simp only[zQy,VObj.ho,VV.cvs,Qa,Je];refine⟨trivial, ?_⟩;congr 2;show _=(dss.set k (zQd (dss.getD k []) off (List.replicate n (dfl c')))).map (vecC c');rw[Jb,yQt,yZg,hz']
 rename_i b off len cap ex c';split at he<;>(try (simp at he;done))
 rename_i hz;obtain⟨hz,hsz⟩:=hz;split at he<;>(try (simp at he;done))
 rename_i c'' ds hb;split at he<;>(try (simp at he;done))
 rename_i hcc2;subst hcc2;split at he<;>(try (simp at he;done))
 rename_i hle;replace hle:off+len≤ds.length:=hle;refine⟨_,_,he, ?_,zQe.set (by simp[VV.blk]) _⟩
 have hz':=CV.zX9 _ _ hz;have hone:(j.zero.map wz).all CV.one=true:=by rw[←hz'];exact zKi _ _
 unfold xW4;simp only[hi,hd,hj,VV.cv,zWr hb];rw[Qf ⟨hsz.symm,by rw[zQp,←Qz];exact Qn _ hle,hone⟩]
 simp only[zQy,VObj.ho,VV.cvs,Qa,Je];refine⟨trivial, ?_⟩;congr 2;show zQd (vecC c'' ds) _ _=vecC c'' (zQd ds off (List.replicate len (zfp c'')));have hrep:∀n:Nat,vecC c'' (List.replicate n (zfp c''))=zWs n (j.zero.map wz):=by
  intro n;rw[wZw,←hz'];simp only[vecC,zWs];induction n with
  |zero=>rfl
  |succ n ih=>simp[Kl,ih]
 rw[yQt,hrep]
theorem uW5{x:VV}{b k o g:Nat}(h:x.cv=.gptr b k o g):∃b c d i o,x=.xptr b c d i o:=by
 cases x<;>first
  |exact⟨_,_,_,_,_,rfl⟩
  |(cases h;done)
  |(simp[VV.cv]at h;done)
  |(rename_i d;cases d<;>simp[VV.cv,valC,mixC]at h)
theorem xKj{t:TypeId}{x v:VV}{K:zQa→Option β}(he:wWz ty h t x v K=some r):∃h',K h'=some r∧zY6 ty (hc h) t x.cv v.cv=some (hc h')∧zQe (x.blk++vQg x v) h h':=by
 have plain:(∀b c d i o b1 off len cap ex c1,¬(x=.xptr b c d i o∧v=.sref b1 off len cap ex c1))→yWm ty h t x v K=some r→∃h',K h'=some r∧zY6 ty (hc h) t x.cv v.cv=some (hc h')∧zQe (x.blk++vQg x v) h h':=by
  intro hn hs;obtain⟨h',k1,k2,k3⟩:=yJ9 hs;refine⟨h',k1, ?_,k3.mono fun y hy=>Qv _ hy⟩
  have e:zY6 ty (hc h) t x.cv v.cv=zJd ty (hc h) t x.cv v.cv:=by
   unfold zY6;split
   ·rename_i e1 e2
    exfalso
    obtain⟨b,c,d,i,o,rfl⟩:=uW5 e1;have hs:srA v=true:=by rw[←wKf,e2];rfl
    unfold srA at hs;split at hs<;>(try (simp at hs;done))
    exact hn _ _ _ _ _ _ _ _ _ _ _ ⟨rfl,rfl⟩
   ·rfl
  rw[e];exact k2
 unfold wWz at he;split at he
 ·rename_i b c d i o b1 off len cap ex c1
  split at he<;>(try (simp at he;done))
  rename_i c' ds hb1;split at he<;>(try (simp at he;done))
  rename_i hcond;obtain⟨rfl,q3,q4⟩:=hcond;split at he<;>(try (simp at he;done))
  rename_i hle;replace hle:off+len≤ds.length:=hle;obtain⟨h',k1,k2,k3⟩:=yJ9 he;refine⟨h',k1, ?_,(zQe.set (m:=(VV.xptr b c d i o).blk++[b1]) (b:=b1) (by simp) .dead).trans (k3.mono fun y hy=>Qv _ hy) (fun _ h=>h)⟩
  have hflat:∀d:El c',(valC c' d).flat=[valC c' d]:=fun d=>by
   cases c'<;>simp[C.agg]at q4<;>first|rfl|exact zWd _ _ _ _
  have hvec:vecC c' ds=ds.map (valC c'):=by
   unfold vecC;rw[show(fun d=>(valC c' d).flat)=fun d=>[valC c' d]from funext hflat]
   exact(List.map_eq_flatMap ..).symm
  rw[zQy]at k2;simp only[VV.cv,zY6,zWr hb1];rw[Qf ⟨q3,by rw[zQp,q3];omega,zXc c' ds⟩]
  simp only[VObj.ho,VV.cv,q3]at k2;rw[←k2,hvec];simp[Z.seg,q3]
 ·rename_i hn
  exact plain (fun b c d i o b1 off len cap ex c1 hh=>hn _ _ _ _ _ _ _ _ _ _ _ hh.1 hh.2) he
theorem wXr{lit:Nat}{ρ:Operand→VV}{ρc:Operand→CV}(hρ:∀x,ρc x=(ρ x).cv){o:Op}{K:VV→zQa→Option β}(he:opVL lit ty h ρ o K=some r):
  ∃v h',K v h'=some r∧opQ ty (hc h) (hc h).length ρc o=none∧opL ty lit (hc h) ρc o=some (v.cv,hc h')∧zQe (zJq h ρ o) h h':=by
 cases o<;>simp only[opVL]at he<;>(try (simp at he;done))
 case store t a x=>
  obtain⟨h',k1,k2,k3⟩:=xKj he;exact⟨_,_,k1,rfl,by simp only[opL,hρ,k2];rfl,k3⟩
 case mapUpdate t m k v=>
  obtain⟨h',k1,k2,k3⟩:=xJc he;exact⟨_,_,k1,rfl,by simp only[opL,hρ,k2];rfl,k3⟩
 case call cl=>
  split at he<;>(try (simp at he;done))
  ·rename_i s x t u h1 h2 h3
   have hq:opQ ty (hc h) (hc h).length ρc (.call cl)=none:=by simp[opQ,yXk,h1,rdC]
   have fin:∀(lb:Bool) hf,(∀lit t u s,zYk lit ty (hc h) t u s (ρ x).cv=zXk lit ty (hc hf) t u s (ρ x).cv)→zQe (xX7 h (ρ x)) h hf→∀v h',zXk lb ty (hc hf) t u (ρ s).cv (ρ x).cv=some (VV.cv v,hc h')→zQe (ρ s).blk hf h'→
     opL ty (if lb then 1 else 0) (hc h) ρc (.call cl)=some (v.cv,hc h')∧zQe (zJq h ρ (.call cl)) h h':=fun lb hf hfz hst v h' k2 k3=>by
    refine⟨by cases lb<;>simp only[opL,h1,h2,h3,hρ,hfz,if_true,Jv,if_false]<;>exact k2, ?_⟩
    simp only[zJq,h2,h1];exact(hst.mono fun y hy=>Q7 _ hy).trans (k3.mono fun y hy=>Qv _ hy) fun _ h=>h
   have fix:∀{b:VV→Prop},True:=fun{_}=>trivial
   split at he
   ·obtain⟨hf,he,hfz,hst⟩:=wX7 (ty:=ty) he
    split at he
    ·rename_i b c d hmx
     obtain⟨v,h',k1,k2,k3⟩:=yJ2 (lit:=false) he;obtain⟨f1,f2⟩:=fin false hf hfz hst v h' (by rw[hmx];exact k2) (by
      rw[hmx];rcases k3 with rfl|⟨o,rfl⟩
      ·exact zQe.refl _ _
      ·exact zQe.set (by simp[VV.blk]) _)
     exact⟨_,_,k1,hq,f1,f2⟩
    ·split at he
     ·obtain⟨v,h',k1,k2,k3⟩:=xZ3 he
      obtain⟨f1,f2⟩:=fin false hf hfz hst v h' k2 k3;exact⟨_,_,k1,hq,f1,f2⟩
     ·obtain⟨v,h',k1,k2,k3⟩:=xZ4 he
      obtain⟨f1,f2⟩:=fin false hf hfz hst v h' k2 k3;exact⟨_,_,k1,hq,f1,f2⟩
   ·obtain⟨hf,he,hfz,hst⟩:=wX7 (ty:=ty) he
    split at he
    ·rename_i b c d hmx
     obtain⟨v,h',k1,k2,k3⟩:=yJ2 (lit:=true) he;obtain⟨f1,f2⟩:=fin true hf hfz hst v h' (by rw[hmx];exact k2) (by
      rw[hmx];rcases k3 with rfl|⟨o,rfl⟩
      ·exact zQe.refl _ _
      ·exact zQe.set (by simp[VV.blk]) _)
     exact⟨_,_,k1,hq,f1,f2⟩
    ·split at he
     ·obtain⟨v,h',k1,k2,k3⟩:=xXe he
      obtain⟨f1,f2⟩:=fin true hf hfz hst v h' k2 k3;exact⟨_,_,k1,hq,f1,f2⟩
     ·obtain⟨v,h',k1,k2,k3⟩:=yK6 he
      obtain⟨f1,f2⟩:=fin true hf hfz hst v h' k2 k3;exact⟨_,_,k1,hq,f1,f2⟩
   ·obtain⟨hf,he,hfz,hst⟩:=wX7 (ty:=ty) he
    have fin5:∀lb:Bool,(!wYc ty t)=lb→∀v h',zXk lb ty (hc hf) t u (ρ s).cv (ρ x).cv=some (VV.cv v,hc h')→zQe (ρ s).blk hf h'→
      opL ty 5 (hc h) ρc (.call cl)=some (v.cv,hc h')∧zQe (zJq h ρ (.call cl)) h h':=fun lb hlb v h' k2 k3=>by
     refine⟨by simp only[opL,h1,h2,h3,hρ,hlb,hfz];exact k2, ?_⟩
     simp only[zJq,h2,h1];exact(hst.mono fun y hy=>Q7 _ hy).trans (k3.mono fun y hy=>Qv _ hy) fun _ h=>h
    split at he
    ·rename_i b c d hmx
     obtain⟨v,h',k1,k2,k3⟩:=yJ2 (lit:=!wYc ty t) he;obtain⟨f1,f2⟩:=fin5 _ rfl v h' (by rw[hmx];exact k2) (by
      rw[hmx];rcases k3 with rfl|⟨o,rfl⟩
      ·exact zQe.refl _ _
      ·exact zQe.set (by simp[VV.blk]) _)
     exact⟨_,_,k1,hq,f1,f2⟩
    ·split at he
     ·rename_i hn
      have hlb:(!wYc ty t)=false:=by rw[hn];rfl
      split at he
      ·obtain⟨v,h',k1,k2,k3⟩:=xZ3 he
       obtain⟨f1,f2⟩:=fin5 _ hlb v h' k2 k3;exact⟨_,_,k1,hq,f1,f2⟩
      ·obtain⟨v,h',k1,k2,k3⟩:=xZ4 he
       obtain⟨f1,f2⟩:=fin5 _ hlb v h' k2 k3;exact⟨_,_,k1,hq,f1,f2⟩
     ·rename_i hn
      have hlb:(!wYc ty t)=true:=by rw[hn];rfl
      split at he
      ·obtain⟨v,h',k1,k2,k3⟩:=xXe he
       obtain⟨f1,f2⟩:=fin5 _ hlb v h' k2 k3;exact⟨_,_,k1,hq,f1,f2⟩
      ·obtain⟨v,h',k1,k2,k3⟩:=yK6 he
       obtain⟨f1,f2⟩:=fin5 _ hlb v h' k2 k3;exact⟨_,_,k1,hq,f1,f2⟩
   ·obtain⟨v,h',k1,k2,k3⟩:=xXf he
    refine⟨_,_,k1,hq, ?_, ?_⟩
    ·simp only[opL,h1,h2,h3,hρ]
     exact k2
    ·simp only[zJq,h2,h1]
     exact k3.mono fun y hy=>Qv _ hy
   ·obtain⟨v,h',k1,k2,k3⟩:=wZr he
    refine⟨_,_,k1,hq, ?_, ?_⟩
    ·simp only[opL,h1,h2,h3,hρ]
     exact k2
    ·simp only[zJq,h2,h1]
     exact k3.mono fun y hy=>Qv _ hy
   ·rename_i hl0 hl1 hl5 hl2 hl4
    obtain⟨v,h',k1,k2,k3⟩:=xXf he;refine⟨_,_,k1,hq, ?_, ?_⟩
    ·simp only[opL,h1,h2,h3,hρ]
     match lit,hl0,hl1,hl4,hl5 with
     |0,hl0,_,_,_=>exact absurd rfl hl0
     |1,_,hl1,_,_=>exact absurd rfl hl1
     |4,_,_,hl4,_=>exact absurd rfl hl4
     |5,_,_,_,hl5=>exact absurd rfl hl5
     |2,_,_,_,_=>exact k2
     |3,_,_,_,_=>exact k2
     |n+6,_,_,_,_=>exact k2
    ·simp only[zJq,h2,h1]
     exact k3.mono fun y hy=>Qv _ hy
  ·rename_i s t h1 h2 h3
   obtain⟨v,h',k1,k2,k3⟩:=vZa he;refine⟨_,_,k1, ?_, ?_, ?_⟩
   ·simp[opQ,yXk,h1,rdC]
   ·simp only[opL,h1,h2,h3,hρ];exact k2
   ·simp only[zJq,h2];exact k3
  ·rename_i s x t u h1 h2 h3
   split at he
   ·obtain⟨v,h',k1,k2,k3⟩:=vX5 he
    refine⟨_,_,k1, ?_, ?_, ?_⟩
    ·simp[opQ,yXk,h1,rdC]
    ·simp only[opL,h1,h2,h3,hρ];exact k2
    ·simp only[zJq,h2,h1];exact k3
   ·rename_i hl4
    obtain⟨v,h',k1,k2,k3⟩:=wZk he;refine⟨_,_,k1, ?_, ?_, ?_⟩
    ·simp[opQ,yXk,h1,rdC]
    ·simp only[opL,h1,h2,h3,hρ]
     match lit,hl4 with
     |0,_=>exact k2
     |1,_=>exact k2
     |2,_=>exact k2
     |3,_=>exact k2
     |4,hl4=>exact absurd rfl hl4
     |n+5,_=>exact k2
    ·simp only[zJq,h2,h1];exact k3
theorem set_self{α:Type}{l:List α}{i:Nat}{x:α}(h:l[i]?=some x):l.set i x=l:=by
 apply Jy;intro j;by_cases hj:j=i
 ·subst hj
  rw[Qk (List.getElem?_eq_some_iff.1 h).1,h]
 ·rw[Qd (Jw hj)]
theorem wJt{ops:Array Oper}{t:List VV}{o:Oper}{K:List VV→Bool→Option β}(he:wWt ops t o K=some r):∃b,K t b=some r∧zWn ops (t.map VV.cv) o=some b:=by
 unfold wWt at he;unfold zWn;split at he
 ·rename_i hg;exact⟨_,he,by simp[hg]⟩
 ·rename_i j want hg
  simp only[hg];split at he
  ·rename_i hd;exact⟨_,he,by simp[hd]⟩
  ·rename_i d hd
   simp only[hd,Qt];split at he<;>(try (simp at he;done))
   ·rename_i b ht
    simp only[ht,Ju,VV.cv];split at he
    ·rw[set_self ht]at he;exact⟨_,he,rfl⟩
    ·rw[set_self ht]at he;exact⟨_,he,rfl⟩
   ·rename_i ht;exact⟨_,he,by simp[ht,VV.cv,zWt]⟩
   ·rename_i ht;exact⟨_,he,by simp[ht,VV.cv]⟩
   ·rename_i ht;exact⟨_,he,by simp[ht]⟩
theorem zZu(t:List VV)(d:Option Tmp)(v:VV):(putV t d v).map VV.cv=putC (t.map VV.cv) d v.cv:=by
 cases d<;>simp[putV,putC,Jb]
end
def CW(c c':CV):Prop:=∀(φ:Phi) (St:Stab) (w:World) (u:Value),VR φ St w c u→VR φ St w c' u
theorem CW.refl(c:CV):CW c c:=fun _ _ _ _ h=>h
theorem CW.junk(c:CV):CW c .junk:=fun _ _ _ _ _=>.junk _
def CWs(cs cs':List CV):Prop:=cs.length=cs'.length∧∀(i:Nat) (c c':CV),cs[i]?=some c→cs'[i]?=some c'→CW c c'
theorem CWs.vrl{cs cs':List CV}(h:CWs cs cs'){φ:Phi}{St:Stab}{w:World}{us:List Value}(hu:VRL φ St w cs us):VRL φ St w cs' us:=by
 have hl:=hu.length;refine VRL.wK0 (by rw[←h.1,hl]) fun j c v hc hv=>?_
 have hj:j<cs.length:=by rw[h.1];exact(List.getElem?_eq_some_iff.1 hc).1
 obtain⟨v',e1,e2⟩:=hu.get j cs[j] (Qm hj);rw[hv]at e1;simp at e1;subst e1;exact h.2 j _ _ (Qm hj) hc _ _ _ _ e2
theorem CW.slice(esz:Nat)(xs:List CV)(tok:Option Nat)(full:Bool):CW (.slice esz xs tok full) (.slice esz xs none false):=by
 intro φ St w u h;cases h with|slice _ _ _ _ a cap vs hat hvs hsz hcap hfull htok=>exact .slice _ _ _ _ _ _ vs hat hvs hsz hcap (fun h=>by simp at h) trivial
theorem CW.nsl(esz:Nat):CW (.slice 0 [] none true) (.slice esz [] none false):=by
 intro φ St w u h;cases h with|slice _ _ _ _ a cap vs hat hvs hsz hcap hfull htok=>exact .slice _ _ _ _ _ _ vs (.inl rfl) hvs (by simp) hcap (fun h=>by simp at h) trivial
theorem CW.nslF(esz:Nat)(full:Bool):CW (.slice 0 [] none true) (.slice esz [] none full):=by
 intro φ St w u h;cases h with|slice _ _ _ _ a cap vs hat hvs hsz hcap hfull htok=>exact .slice _ _ _ _ _ _ vs (.inl rfl) hvs (by simp) hcap (fun _=>hfull rfl) trivial
theorem CW.agg{cs cs':List CV}(h:∀φ St w us,VRL φ St w cs us→VRL φ St w cs' us):CW (.agg cs) (.agg cs'):=by
 intro φ St w u hu;cases hu with|agg _ vs hv=>exact .agg _ _ (h _ _ _ _ hv)
def VW(cs cs':List CV):Prop:=∀φ St w us,VRL φ St w cs us→VRL φ St w cs' us
theorem VW.refl(cs:List CV):VW cs cs:=fun _ _ _ _ h=>h
theorem VW.one{c c':CV}(h:CW c c'):VW [c] [c']:=by
 intro φ St w us hu;cases hu with|cons _ v _ vs h1 h2=>cases h2;exact .cons _ _ _ _ (h _ _ _ _ h1) .nil
theorem VW.append{as as' bs bs':List CV}(h:VW as as')(k:VW bs bs'):VW (as++bs) (as'++bs'):=by
 intro φ St w us hu;have hl:=hu.length;rw[Q5]at hl;have h1:=hu.take as.length;have h2:=hu.drop as.length;simp only[Kz,Ky]at h1 h2;rw[←Ja as.length us];exact(h _ _ _ _ h1).append (k _ _ _ _ h2)
mutual
theorem yYo:∀{c:C} {v:VV} {d:El c},deW c v=some d→CW v.cv (valC c d)
 | .bool,v,d,h=>by
  simp only[deW]at h;split at h<;>simp at h;subst h;exact CW.refl _
 | .int k,v,d,h=>by
  simp only[deW]at h;split at h<;>(try (simp at h;done))
  split at h<;>simp at h;rename_i hk;subst hk;subst h;exact CW.refl _
 | .str,v,d,h=>by
  simp only[deW]at h;split at h<;>simp at h;subst h;exact CW.refl _
 | .list c,v,d,h=>by
  simp only[deW]at h;split at h<;>(try (simp at h;done))
  ·split at h<;>simp at h
   rename_i hk;subst hk;subst h;exact CW.slice _ _ _ _
  ·simp at h;subst h;exact CW.nsl _
 | .unit,v,d,h=>by
  simp only[deW]at h;split at h<;>(try (simp at h;done))
  simp only[VV.cv,VV.zQx];exact CW.agg (yZy h)
 | .pair a b,v,d,h=>by
  simp only[deW]at h;split at h<;>(try (simp at h;done))
  simp only[VV.cv,VV.zQx];exact CW.agg (yZy h)
 | .arr n c,v,d,h=>by
  simp only[deW]at h;split at h<;>(try (simp at h;done))
  ·split at h<;>(try (simp at h;done))
   rename_i hk;subst hk;split at h<;>simp at h;rename_i hk;subst hk;subst h;exact CW.refl _
  ·simp only[VV.cv,VV.zQx,wZq h]
   exact CW.refl _
 | .mix b c,v,d,h=>by
  simp only[deW]at h;split at h<;>(try (simp at h;done))
  ·split at h<;>simp at h
   rename_i hk;obtain⟨rfl,rfl⟩:=hk;subst h;exact CW.refl _
  ·split at h
   ·simp at h
    rename_i hk;subst hk;subst h;exact CW.slice _ _ _ _
   ·split at h<;>(try (simp at h;done))
    split at h<;>simp at h;obtain⟨hk,rfl⟩:=h;intro φ St w u hu;simp only[VV.cv,Q8]at hu;cases hu with|slice _ _ _ _ a cap vs hat hvs hsz hcap hfull htok=>exact .slice _ _ _ _ _ _ vs (.inl rfl) hvs (by simp) hcap (fun h=>by simp at h) trivial
  ·simp at h;subst h;exact CW.refl _
theorem yZy:∀{c:C} {vs:List VV} {d:El c},deWs c vs=some d→VW (vs.map VV.cv) (valC c d).flat
 | .unit,vs,d,h=>by
  simp only[deWs]at h;split at h<;>simp at h;exact VW.refl _
 | .pair a b,vs,d,h=>by
  simp only[deWs]at h;split at h<;>simp at h;rename_i x y hx hy;subst h;rw[←Ja a.cells vs,Qw];exact VW.append (yZy hx) (yZy hy)
 | .arr n c,vs,d,h=>by
  simp only[deWs]at h;rw[wZq h];exact VW.refl _
 | .bool,vs,d,h=>by
  simp only[deWs]at h;split at h<;>simp at h;subst h;exact VW.refl _
 | .int k,vs,d,h=>by
  simp only[deWs]at h;split at h<;>(try (simp at h;done))
  split at h<;>simp at h;rename_i hk;subst hk;subst h;exact VW.refl _
 | .str,vs,d,h=>by
  simp only[deWs]at h;split at h<;>simp at h;subst h;exact VW.refl _
 | .list c,vs,d,h=>by
  simp only[deWs]at h;split at h<;>(try (simp at h;done))
  ·split at h<;>simp at h
   rename_i hk;subst hk;subst h;exact VW.one (CW.slice _ _ _ _)
  ·simp at h;subst h;exact VW.one (CW.nsl _)
 | .mix b c,vs,d,h=>by
  simp only[deWs]at h;split at h<;>(try (simp at h;done))
  ·split at h<;>simp at h
   rename_i hk;obtain⟨rfl,rfl⟩:=hk;subst h;simp only[Qg,Q8,VV.cv,valC,zWd];exact VW.one (CW.refl _)
  ·split at h
   ·simp at h
    rename_i hk;subst hk;subst h;exact VW.one (CW.slice _ _ _ _)
   ·split at h<;>(try (simp at h;done))
    split at h<;>simp at h;obtain⟨hk,rfl⟩:=h;refine VW.one fun φ St w u hu=>?_
    simp only[VV.cv,Q8]at hu;cases hu with|slice _ _ _ _ a cap vs hat hvs hsz hcap hfull htok=>exact .slice _ _ _ _ _ _ vs (.inl rfl) hvs (by simp) hcap (fun h=>by simp at h) trivial
  ·simp at h;subst h;exact VW.one (CW.refl _)
end
theorem SK.get_cw{s:SK}{v:VV}{d:s.D}(h:s.get v=some d):CW v.cv (s.put d).cv:=by
 cases s with
 |val c=>simp only[SK.put,zQv];exact yYo h
 | slt c tok full=>
  simp only[SK.get]at h;split at h<;>(try (simp at h;done))
  ·split at h<;>(try (simp at h;done))
   rename_i hk;subst hk;split at h<;>simp at h;rename_i hcond;subst h;obtain⟨h1,h2⟩:=hcond;intro φ St w u hu;simp only[SK.put,VV.cv]at hu⊢;cases hu with|slice _ _ _ _ a cap vs hat hvs hsz hcap hfull htok=>
   refine .slice _ _ _ _ _ _ vs hat hvs hsz hcap ?_ ?_
   ·intro hf;rcases h2 with h2|h2
    ·rw[h2]at hf;simp at hf
    ·exact hfull (by rw[h2];exact hf)
   ·rcases h1 with h1|h1
    ·subst h1;trivial
    ·subst h1;exact htok
  ·split at h<;>simp at h
   rename_i hk;subst hk;subst h;simp only[SK.put,VV.cv,Q8];exact CW.nslF _ _
 |sref b ex c=>
  simp only[SK.get]at h;split at h<;>(try (simp at h;done))
  split at h<;>simp at h;rename_i hcond;obtain⟨rfl,rfl,rfl⟩:=hcond;subst h;exact CW.refl _
theorem SK.xWu{s:SK}{v:VV}{d:s.D}(h:s.getX v=some d):v.cv=(s.put d).cv:=by
 cases s with
 | val c=>
  simp only[SK.getX]at h;split at h<;>(try (simp at h;done))
  ·split at h<;>simp at h;subst h;rfl
  ·split at h<;>(try (simp at h;done))
   split at h<;>simp at h;rename_i hk;subst hk;subst h;rfl
  ·split at h<;>simp at h;subst h;rfl
  ·split at h<;>(try (simp at h;done))
   split at h<;>simp at h;rename_i hk;subst hk;subst h;rfl
  ·split at h<;>(try (simp at h;done))
   ·split at h<;>simp at h
    rename_i hk;obtain⟨rfl,rfl⟩:=hk;subst h;rfl
   ·split at h<;>simp at h
    rename_i hk;subst hk;subst h;rfl
   ·simp at h;subst h;rfl
 |slt c tok full=>
  simp only[SK.getX]at h;split at h<;>(try (simp at h;done))
  split at h<;>(try (simp at h;done))
  rename_i hk;subst hk;split at h<;>simp at h;rename_i hk;obtain⟨rfl,rfl⟩:=hk;subst h;rfl
 |sref b ex c=>
  simp only[SK.getX]at h;split at h<;>(try (simp at h;done))
  split at h<;>simp at h;rename_i hcond;obtain⟨rfl,rfl,rfl⟩:=hcond;subst h;rfl
theorem SKs.xWu:∀{l:List SK} {vs:List VV} {d:SKs l},SKs.getX l vs=some d→vs.map VV.cv=(SKs.put l d).map VV.cv
 |[],vs,d,h=>by simp only[SKs.getX]at h;split at h<;>simp at h;rfl
 |[s],vs,d,h=>by
  simp only[SKs.getX]at h;split at h<;>(try (simp at h;done))
  simp[SKs.put,SK.xWu h]
 |s::u::l,vs,d,h=>by
  simp only[SKs.getX]at h;split at h<;>(try (simp at h;done))
  split at h<;>simp at h;rename_i x y h1 h2;subst h;have:=SKs.xWu h2;simp only[Qg,SKs.put,SK.xWu h1]at this⊢;rw[this]
end Go.Eng
