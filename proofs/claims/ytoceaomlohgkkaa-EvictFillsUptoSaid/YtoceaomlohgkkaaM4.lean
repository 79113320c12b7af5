/- The engine, part 4. -/
import Derived.Test.YtoceaomlohgkkaaM3
set_option linter.unusedSimpArgs false
/- Operations on plain data, by name. -/
namespace Go.Eng.Z
@[reducible] def add(a b:Int):Int:=a+b
@[reducible] def sub(a b:Int):Int:=a-b
@[reducible] def mul(a b:Int):Int:=a*b
@[reducible] def tdiv(a b:Int):Int:=a.tdiv b
@[reducible] def tmod(a b:Int):Int:=a.tmod b
@[reducible] def wrap(k:IntKind)(a:Int):Int:=k.wrap a
@[reducible] def band(k:IntKind)(a b:Int):Int:=k.wrap (BitVec.ofInt k.bits a&&&BitVec.ofInt k.bits b).toNat
@[reducible] def bor(k:IntKind)(a b:Int):Int:=k.wrap (BitVec.ofInt k.bits a|||BitVec.ofInt k.bits b).toNat
@[reducible] def bxor(k:IntKind)(a b:Int):Int:=k.wrap (BitVec.ofInt k.bits a^^^BitVec.ofInt k.bits b).toNat
@[reducible] def bandn(k:IntKind)(a b:Int):Int:=k.wrap (BitVec.ofInt k.bits a&&& ~~~(BitVec.ofInt k.bits b)).toNat
@[reducible] def shl(k:IntKind)(a b:Int):Int:=k.wrap (a*2^(min b.toNat k.bits))
@[reducible] def shr(k:IntKind)(a b:Int):Int:=a.fdiv (2^(min b.toNat k.bits))
@[reducible] def ieq(a b:Int):Bool:=a==b
@[reducible] def ine(a b:Int):Bool:=a !=b
@[reducible] def ilt(a b:Int):Bool:=decide (a<b)
@[reducible] def ile(a b:Int):Bool:=decide (a≤b)
@[reducible] def igt(a b:Int):Bool:=decide (a>b)
@[reducible] def ige(a b:Int):Bool:=decide (a≥b)
@[reducible] def bnot(a:Bool):Bool:=!a
@[reducible] def beq(a b:Bool):Bool:=a==b
@[reducible] def andB(a b:Bool):Bool:=a&&b
@[reducible] def lq(n:Nat)(l k:List Int):Bool:=(List.range n).all fun i=>l.getD i 0==k.getD i 0
@[reducible] def zQ1(t x y:Bool):Bool:=if t=true then x else y
@[reducible] def IsZ(b:Int):Prop:=b=0
@[reducible] def Neg(b:Int):Prop:=b<0
@[reducible] def In(n:Int)(len:Nat):Prop:=0≤n∧n<len
@[reducible] def Ix(n:Int)(len:Nat):Prop:=0≤n∧n.toNat<len
@[reducible] def Bd(n:Int)(len:Nat):Prop:=0≤n∧n≤len
@[reducible] def Lt(a b:Nat):Prop:=a<b
@[reducible] def Le(a b:Nat):Prop:=a≤b
@[reducible] def EqN(a b:Nat):Prop:=a=b
noncomputable def mkOkP:{f:Int→Int→Nat→Bool// ∀l c b,f l c b=true↔(0≤l∧l≤c∧c<2^40∧b*c≤2^48)}:=Classical.choice ⟨⟨fun l c b=>decide (0≤l∧l≤c∧c<2^40∧b*c≤2^48),fun _ _ _=>decide_eq_true_iff⟩⟩
@[reducible] def MkOk(l c:Int)(bytes:Nat):Prop:=mkOkP.1 l c bytes=true
theorem zJ4{l c:Int}{b:Nat}:MkOk l c b↔(0≤l∧l≤c∧c<2^40∧b*c≤2^48):=mkOkP.2 l c b
noncomputable def zOkP:{f:Int→Nat→Bool// ∀n b,f n b=true↔(0≤n∧n≤2^40∧n*(b+1)≤2^44)}:=Classical.choice ⟨⟨fun n b=>decide (0≤n∧n≤2^40∧n*(b+1)≤2^44),fun _ _=>decide_eq_true_iff⟩⟩
@[reducible] def ZOk(n:Int)(bytes:Nat):Prop:=zOkP.1 n bytes=true
theorem wW5{n:Int}{b:Nat}:ZOk n b↔(0≤n∧n≤2^40∧n*(b+1)≤2^44):=zOkP.2 n b
@[reducible] def Big(a b bytes:Nat):Prop:=2^44<(a+b)*(bytes+1)
@[reducible] def SBig(a b:Nat):Prop:=a+b<2^40
@[reducible] def eqN(a b:Nat):Bool:=a==b
@[reducible] def addN(a b:Nat):Nat:=a+b
@[reducible] def subN(a b:Nat):Nat:=a-b
@[reducible] def toN(n:Int):Nat:=n.toNat
@[reducible] def ofN(n:Nat):Int:=n
@[reducible] def len{α:Type}(l:List α):Nat:=l.length
@[reducible] def get{α:Type}(l:List α)(i:Nat)(d:α):α:=l.getD i d
@[reducible] def set{α:Type}(l:List α)(i:Nat)(d:α):List α:=l.set i d
@[reducible] def app{α:Type}(l k:List α):List α:=l++k
@[reducible] def seg{α:Type}(l:List α)(off len:Nat):List α:=(l.drop off).take len
@[reducible] def slice{α:Type}(l:List α)(lo hi:Nat):List α:=(l.take hi).drop lo
@[reducible] def rep{α:Type}(n:Nat)(d:α):List α:=List.replicate n d
@[reducible] def norm{α:Type}(n:Nat)(l:List α)(d:α):List α:=(List.range n).map fun i=>l.getD i d
@[reducible] def bytes(s:List UInt8):List Int:=s.map fun b=>(b.toNat:Int)
@[reducible] def str(l:List Int):List UInt8:=l.map fun n=>UInt8.ofNat n.toNat
@[reducible] def sget(s:List UInt8)(i:Nat):Int:=(s.getD i 0).toNat
@[reducible] def seq(a b:List UInt8):Bool:=a==b
@[reducible] def sne(a b:List UInt8):Bool:=!(a==b)
@[reducible] def slt(a b:List UInt8):Bool:=Op.bytesLess a b
@[reducible] def imax(gt:Bool)(a b:Int):Int:=if gt then(if b>a then b else a)else(if b<a then b else a)
@[reducible] def bnd{α β:Type}(x:α)(k:α→Option β):Option β:=k x
@[reducible] def minN(a b:Nat):Nat:=min a b
@[reducible] def take{α:Type}(n:Nat)(l:List α):List α:=l.take n
@[reducible] def put{α:Type}(l:List α)(off:Nat)(k:List α):List α:=zQh l off k
@[reducible] def bind{α β:Type}(x:Option α)(k:α→Option β):Option β:=x.bind k
@[reducible] def xlen{α:Type}(d:MixE α):Nat:=match d with| .data l=>l.length| .nil=>0| .ref _ _ n _=>n
@[reducible] def xget{α:Type}(m:List (List α))(d:MixE α):List α:=match d with| .data l=>l| .nil=>[]| .ref k off n _=>((m.getD k []).drop off).take n
@[reducible] def XOk{α:Type}(m:List (List α))(d:MixE α):Prop:=d.xok m=true
@[reducible] def XPt{α:Type}(m:List (List α))(d:MixE α)(i:Nat):Prop:=d.xpt m i=true
@[reducible] def XW{α:Type}(m:List (List α))(d:MixE α):Prop:=d.xw m=true
@[reducible] def XGr{α:Type}(m:List (List α))(d:MixE α):Prop:=d.xgr m=true
@[reducible] def XCut{α:Type}(m:List (List α))(d:MixE α):Prop:=d.xcut m=true
@[reducible] def xk{α:Type}(d:MixE α):Nat:=match d with| .ref k _ _ _=>k|_=>0
@[reducible] def xoff{α:Type}(d:MixE α):Nat:=match d with| .ref _ off _ _=>off|_=>0
@[reducible] def xgen{α:Type}(d:MixE α):Nat:=match d with| .ref _ _ _ gen=>gen|_=>0
@[reducible] def xat{α:Type}(m:List (List α))(d:MixE α)(i:Nat)(z:α):α:=(m.getD (xk d) []).getD (xoff d+i) z
@[reducible] def xset{α:Type}(m:List (List α))(d:MixE α)(i:Nat)(x:α):List (List α):=m.set (xk d) ((m.getD (xk d) []).set (xoff d+i) x)
@[reducible] def xapp{α:Type}(m:List (List α))(d:MixE α)(l:List α):List (List α):=m.set (xk d) (m.getD (xk d) []++l)
@[reducible] def xY5{α:Type}(d:MixE α)(n:Nat):MixE α:=match d with| .ref k off len gen=>.ref k off (len+n) (gen+n)|d=>d
@[reducible] def xcut{α:Type}(d:MixE α)(lo hi:Nat):MixE α:=match d with| .data l=>.data ((l.take hi).drop lo)| .nil=>.nil| .ref k off _ gen=>.ref k (off+lo) (hi-lo) gen
@[reducible] def xput{α:Type}(m:List (List α))(d:MixE α)(l:List α):List (List α):=m.set (xk d) (zQh (m.getD (xk d) []) (xoff d) l)
@[reducible] def xnew{α:Type}(k n:Nat):MixE α:=.ref k 0 n n
@[reducible] def wW8{α:Type}(n:Nat)(d:MixE α):MixE α:=match d with| .ref k off len gen=>.ref (n+k) off len gen|d=>d
@[reducible] def yZ7{α:Type}(l:List α):MixE α:=.data l
@[reducible] def xrow{α:Type}(k:Nat)(d:List α):MixE α:=if d.length=0 then .data d else .ref k 0 d.length d.length
@[reducible] def mapO{α β:Type}(f:α→Option β)(l:List α):Option (List β):=l.mapM f
@[reducible] def xnil{α:Type}:MixE α:=.nil
@[reducible] def xK4{α:Type}(n:Nat):List (MixE α):=(List.range n).map fun k=>.ref k 0 0 0
def xJ8(n:Int):List (Int×Int)→Nat→Option (Nat×Int)
 |[],_=>none
 |p::es,i=>if n==p.1 then some (i,p.2)else xJ8 n es (i+1)
@[reducible] def mget(es:List (Int×Int))(n:Int):Int:=((xJ8 n es 0).map (·.2)).getD 0
@[reducible] def mhas(es:List (Int×Int))(n:Int):Bool:=(xJ8 n es 0).isSome
@[reducible] def mput(es:List (Int×Int))(n v:Int):List (Int×Int):=match xJ8 n es 0 with|some q=>es.set q.1 (n,v)|none=>es++[(n,v)]
def join{σ β:Type}(f:(σ→Option β)→Option β)(g:σ→Option β):Option β:=f g
theorem join_eq{σ β:Type}(f:(σ→Option β)→Option β)(g:σ→Option β):join f g=f g:=rfl
end Go.Eng.Z
namespace Go.Eng
def xYe{σ β:Type}(f:σ→(σ→Option β)→Option β):Nat→σ→Option β
 |0,_=>none
 |n+1,d=>f d (xYe f n)
def bigN:Nat:=18446744073709551616
noncomputable def Z.loopP{σ β:Type}:{g:(σ→(σ→Option β)→Option β)→σ→Option β//g=fun f d=>xYe f bigN d}:=Classical.choice ⟨⟨_,rfl⟩⟩
noncomputable def Z.loop{σ β:Type}(f:σ→(σ→Option β)→Option β)(d:σ):Option β:=Z.loopP.1 f d
theorem Z.wY9{σ β:Type}(f:σ→(σ→Option β)→Option β)(d:σ):Z.loop f d=xYe f bigN d:=congrFun (congrFun Z.loopP.2 f) d
noncomputable def Z.anyP{α:Type}:{f:Nat→(Nat→Option α)→Option α→Option α// ∀n g z l,f n g z=some l↔((∀k,n≤k→g k=some l)∧(n=0→z=some l))}:=
 Classical.choice (by
  classical
  refine⟨⟨fun n g z=>if h:∃l,(∀k,n≤k→g k=some l)∧(n=0→z=some l)then some (Classical.choose h)else none,fun n g z l=>?_⟩⟩
  dsimp only;by_cases h:∃l,(∀k,n≤k→g k=some l)∧(n=0→z=some l)
  ·rw[dif_pos h]
   have hc:=Classical.choose_spec h;constructor
   ·intro e
    simp only[Qd]at e;rw[←e];exact hc
   ·intro hl
    have a:=hc.1 n (Qf _);rw[hl.1 n (Qf _)]at a;exact a.symm
  ·rw[dif_neg h]
   constructor
   ·intro e;cases e
   ·intro hl;exact absurd ⟨l,hl⟩ h)
noncomputable def Z.vWz{α:Type}(n:Nat)(g:Nat→Option α)(z:Option α):Option α:=Z.anyP.1 n g z
theorem Z.wK5{α:Type}{n:Nat}{g:Nat→Option α}{z:Option α}{l:α}:Z.vWz n g z=some l↔((∀k,n≤k→g k=some l)∧(n=0→z=some l)):=Z.anyP.2 n g z l
end Go.Eng
/- Typed values, for symbolic evaluation: what they are in the clean world. -/
namespace Go.Eng
set_option linter.unusedVariables false
inductive C where
 |bool
 |int (k:IntKind)
 |str
 |list (c:C)
 |unit
 |pair (a b:C)
 |arr (n:Nat) (c:C)
 |mix (b:Nat) (c:C)
 deriving DecidableEq
@[reducible] def El:C→Type
  | .bool=>Bool
  | .int _=>Int
  | .str=>List UInt8
  | .list c=>List (El c)
  | .unit=>Unit
  | .pair a b=>El a×El b
  | .arr _ c=>List (El c)
  | .mix _ c=>MixE (El c)
def dfl:(c:C)→El c
 | .bool=>false
 | .int _=>(0:Int)
 | .str=>[]
 | .list _=>[]
 | .unit=>()
 | .pair a b=>(dfl a,dfl b)
 | .arr n c=>List.replicate n (dfl c)
 | .mix _ _=>.nil
def C.cells:C→Nat
 | .unit=>0
 | .pair a b=>a.cells+b.cells
 | .arr n c=>n*c.cells
 |_=>1
def C.agg:C→Bool
 | .unit| .pair _ _| .arr _ _=>true
 |_=>false
def mixC{α:Type}(b sz:Nat)(f:α→CV):MixE α→CV
 | .data ds=>.slice sz (ds.map f) none false
 | .nil=>.slice 0 [] none true
 | .ref k off n gen=>.gref sz b k (off*sz) n (gen*sz)
theorem zWj{α:Type}(b sz:Nat)(f:α→CV)(d:MixE α):(mixC b sz f d).flat=[mixC b sz f d]:=by cases d<;>rfl
theorem wZa{α:Type}(b sz:Nat)(f:α→CV)(d:MixE α):(mixC b sz f d).one=true:=by cases d<;>rfl
def valC:(c:C)→El c→CV
 | .bool,b=>.bool b
 | .int k,n=>.int k n
 | .str,s=>.str s
 | .list c,ds=>.slice c.cells (ds.map (valC c)) none false
 | .unit,_=>.agg []
 | .pair a b,d=>.agg ((valC a d.1).flat++(valC b d.2).flat)
 | .arr n c,ds=>.agg ((List.range n).flatMap fun i=>(valC c (ds.getD i (dfl c))).flat)
 | .mix b c,d=>mixC b c.cells (valC c) d
def C.pl:C→Bool
 | .list c=>c.pl
 | .pair a b=>a.pl&&b.pl
 | .arr _ c=>c.pl
 | .mix _ _=>false
 |_=>true
theorem flat_agg(cs:List CV):(CV.agg cs).flat=cs:=rfl
theorem zQn:∀(c:C) (d:El c),(valC c d).flat.length=c.cells
 | .mix b c,d=>by simp only[valC,zWj];rfl
 | .bool,b=>rfl
 | .int k,n=>rfl
 | .str,s=>rfl
 | .list c,ds=>rfl
 | .unit,_=>rfl
 | .pair a b,d=>by simp only[valC,flat_agg,C.cells,Q6,zQn a d.1,zQn b d.2]
 | .arr n c,ds=>by
  simp only[valC,flat_agg,C.cells];have:∀l:List Nat,(l.flatMap fun i=>(valC c (ds.getD i (dfl c))).flat).length=l.length*c.cells:=by
   intro l;induction l with
   |nil=>simp
   |cons i l ih=>rw[Qn,Q6,ih,zQn c,Js,Jz,Nat.add_comm]
  rw[this,List.length_range]
theorem zZw:∀(c:C) (d:El c),(valC c d).flat.all CV.one=true
 | .mix b c,d=>by simp only[valC,zWj,Jq,wZa,List.all_nil,Kx]
 | .bool,b=>rfl
 | .int k,n=>rfl
 | .str,s=>rfl
 | .list c,ds=>rfl
 | .unit,_=>rfl
 | .pair a b,d=>by simp only[valC,flat_agg,List.all_append,zZw a d.1,zZw b d.2,Kx]
 | .arr n c,ds=>by
  simp only[valC,flat_agg,Qo];intro x hx;obtain⟨i,_,hi⟩:=Jm.1 hx;exact Qo.1 (zZw c _) x hi
theorem zQ2:∀(c:C) (d:El c),c.pl=true→zWa (valC c d)=true
 | .bool,b,_=>rfl
 | .int k,n,_=>rfl
 | .str,s,_=>rfl
 | .list c,ds,h=>by
  simp only[valC,zWa,Option.isNone_none,Kf];have h':c.pl=true:=h;induction ds with
  |nil=>rfl
  |cons d ds ih=>simp[zQv,zQ2 c d h',ih]
 | .unit,_,_=>rfl
 | .pair a b,d,h=>by
  simp only[C.pl,Qc]at h;simp[valC,zWa,zZ2,zW6 (zQ2 a d.1 h.1),zW6 (zQ2 b d.2 h.2)]
 | .arr n c,ds,h=>by
  simp only[valC,zWa];have h':c.pl=true:=h;generalize List.range n=l;induction l with
  |nil=>rfl
  |cons i l ih=>simp only[Qn,zZ2,zW6 (zQ2 c _ h'),ih,Kx]
 | .mix b c,d,h=>by simp[C.pl]at h
inductive VV where
 |junk
 |undef
 |bool (b:Bool)
 |int (k:IntKind) (n:Int)
 |str (s:List UInt8)
 |nilptr
 |nilmap
 |nsl
 |ptr (b off:Nat)
 |ptrE (b i:Nat) (c:C)
 |ptrF (b i:Nat) (c:C) (o:Nat)
 |rop (v:VV)
 |av (n:Nat) (c:C) (ds:List (El c))
 |sl (c:C) (ds:List (El c)) (tok:Option Nat) (full:Bool)
 |sref (b off len cap:Nat) (ex:Bool) (c:C)
 |mix (b:Nat) (c:C) (d:MixE (El c))
 |xptr (b:Nat) (c:C) (d:MixE (El c)) (i o:Nat)
 |func (f:FuncId) (first captured:List VV)
 |yield (l:Nat)
 |nilfunc
 |niliface
 |agg (vs:List VV)
 |tuple (vs:List VV)
 |map (b:Nat)
 |ifc (t:TypeId) (c:CV)
mutual
def VV.cv:VV→CV
 | .junk=>.junk
 | .undef=>zWk
 | .bool b=>.bool b
 | .int k n=>.int k n
 | .str s=>.str s
 | .nilptr=>.nilptr
 | .nilmap=>.nilmap
 | .nsl=>.slice 0 [] none true
 | .ptr b off=>.ptr b off
 | .ptrE b i c=>.ptr b (i*c.cells)
 | .ptrF b i c o=>.ptr b (i*c.cells+o)
 | .rop v=>.rop v.cv
 | .av n c ds=>valC (.arr n c) ds
 | .sl c ds tok full=>.slice c.cells (ds.map (valC c)) tok full
 | .sref b off len cap ex c=>.sref c.cells b (off*c.cells) len cap ex
 | .mix b c d=>valC (.mix b c) d
 | .xptr b c d i o=>.gptr b (Z.xk d) ((Z.xoff d+i)*c.cells+o) (Z.xgen d*c.cells)
 | .func f xs ys=>.func f (VV.cvs xs) (VV.cvs ys)
 | .yield l=>.yield l
 | .nilfunc=>.nilfunc
 | .niliface=>.niliface
 | .agg vs=>.agg (VV.cvs vs)
 | .tuple vs=>.tuple (VV.cvs vs)
 | .map b=>.map b
 | .ifc t c=>.iface t c
def VV.cvs:List VV→List CV
 |[]=>[]
 |v::vs=>v.cv::VV.cvs vs
end
theorem VV.zQt:∀vs:List VV,VV.cvs vs=vs.map VV.cv
 |[]=>rfl
 |v::vs=>by simp[VV.cvs,VV.zQt vs]
def VV.one:VV→Bool
 | .agg _| .av _ _ _| .tuple _| .junk| .undef=>false
 |_=>true
theorem VV.wYz(v:VV):v.cv.one=v.one:=by
 cases v<;>first|rfl|exact wZa _ _ _ _
def zK4:(c:C)→El c→List VV
 | .bool,b=>[.bool b]
 | .int k,n=>[.int k n]
 | .str,s=>[.str s]
 | .list c,ds=>[.sl c ds none false]
 | .unit,_=>[]
 | .pair a b,d=>zK4 a d.1++zK4 b d.2
 | .arr n c,ds=>(List.range n).flatMap fun i=>zK4 c (Z.get ds i (dfl c))
 | .mix b c,d=>[.mix b c d]
theorem zZ8:∀(c:C) (d:El c),(zK4 c d).map VV.cv=(valC c d).flat
 | .mix b c,d=>by simp only[zK4,Qh,Qy,VV.cv,valC,zWj]
 | .bool,b=>rfl
 | .int k,n=>rfl
 | .str,s=>rfl
 | .list c,ds=>rfl
 | .unit,_=>rfl
 | .pair a b,d=>by simp only[zK4,Qr,zZ8 a d.1,zZ8 b d.2,valC,flat_agg]
 | .arr n c,ds=>by
  simp only[zK4,valC,flat_agg,List.map_flatMap];congr 1
  funext i
  exact zZ8 c _
def valV:(c:C)→El c→VV
 | .bool,b=>.bool b
 | .int k,n=>.int k n
 | .str,s=>.str s
 | .list c,ds=>.sl c ds none false
 | .unit,_=>.agg []
 | .pair a b,d=>.agg (zK4 a d.1++zK4 b d.2)
 | .arr n c,ds=>.av n c ds
 | .mix b c,d=>.mix b c d
theorem zQq:∀(c:C) (d:El c),(valV c d).cv=valC c d
 | .mix b c,d=>rfl
 | .bool,b=>rfl
 | .int k,n=>rfl
 | .str,s=>rfl
 | .list c,ds=>rfl
 | .unit,_=>rfl
 | .pair a b,d=>by simp only[valV,VV.cv,VV.zQt,Qr,zZ8,valC]
 | .arr n c,ds=>rfl
def VV.flat:VV→List VV
 | .agg vs=>vs
 | .av n c ds=>zK4 (.arr n c) ds
 |v=>[v]
theorem VV.zJn(v:VV):v.cv.flat=v.flat.map VV.cv:=by
 cases v<;>simp[VV.cv,VV.flat,CV.flat,VV.zQt,zWk]
 ·rename_i n c ds
  exact(zZ8 (.arr n c) ds).symm
 ·exact zWj _ _ _ _
inductive SK where
 |val (c:C)
 |slt (c:C) (tok:Option Nat) (full:Bool)
 |sref (b:Nat) (ex:Bool) (c:C)
inductive Item where
 |slot (i:Nat) (s:SK)
 |cells (b:Nat) (l:List SK)
 |vec (b:Nat) (c:C)
 |rows (b:Nat) (c:C)
 |map (b:Nat) (k1 k2:IntKind)
structure LSpec where
 id:Nat
 known:Bool
 toks:List (Nat×C)
 items:List Item
 junk:List Nat
 tails:List (Nat×Nat)
 frz:List (Nat×Nat):=[]
instance:Inhabited LSpec:=⟨{id:=0,known:=false,toks:=[],items:=[],junk:=[],tails:=[]}⟩
inductive Y where
 |skip
 |region (id:Nat) (ops:Array Oper) (draw:Bool) (plan:List (Nat×List Nat)) (nl:Nat)
 |seq (a b:Y)
 |cond (c:Operand) (thn els:Y)
 |block (id:Nat) (body:Y)
 |loop (sp:LSpec) (body:Y)
 |exit (id:Nat)
 |scope (body:Y)
 |label (l:Nat)
 |goto (l:Nat)
 |ret
 |rangeFunc (g:Operand) (ps:Array Tmp) (assign body:Y)
 |join (sp:LSpec) (body:Y)
 deriving Inhabited
def Y.x:Y→X
 | .join _ b=>b.x
 | .skip=>.skip
 | .region id ops draw plan _=>.region id ops draw plan
 | .seq a b=>.seq a.x b.x
 | .cond c a b=>.cond c a.x b.x
 | .block id b=>.block id b.x
 | .loop _ b=>.loop b.x
 | .exit id=>.exit id
 | .scope b=>.scope b.x
 | .label l=>.label l
 | .goto l=>.goto l
 | .ret=>.ret
 | .rangeFunc g ps a b=>.rangeFunc g ps a.x b.x
inductive VObj where
 |dead
 |cells (vs:List VV)
 |vec (c:C) (ds:List (El c))
 |rows (c:C) (dss:List (List (El c)))
 |tail (u:Nat)
 |loop (fn:FuncId) (tmps:List VV) (params:Array Tmp) (assign body:Y) (state:LoopState) (pending:Option Jump)
 |map (k1 k2:IntKind) (es:List (Int×Int))
abbrev zQa:=List VObj
def vecC(c:C)(ds:List (El c)):List CV:=ds.flatMap fun d=>(valC c d).flat
def entC(k1 k2:IntKind)(es:List (Int×Int)):List (CV×CV):=es.map fun p=>(.int k1 p.1, .int k2 p.2)
def VObj.ho:VObj→HObj
 | .dead=>.dead
 | .cells vs=>.cells (vs.map VV.cv)
 | .vec c ds=>.cells (vecC c ds)
 | .rows c dss=>.rows (dss.map (vecC c))
 | .tail u=>.tail u
 | .loop fn tmps ps a b st pend=>.loop fn (tmps.map VV.cv) ps a.x b.x st pend
 | .map k1 k2 es=>.map (entC k1 k2 es)
def hc(h:zQa):Heap:=h.map VObj.ho
theorem zQy(h:zQa)(b:Nat):(hc h)[b]?=(h[b]?).map VObj.ho:=by simp[hc]
theorem zW1(h:zQa):(hc h).length=h.length:=by simp[hc]
theorem zQ3(h k:zQa):hc (h++k)=hc h++hc k:=by simp[hc]
theorem zQu(h:zQa)(b:Nat)(o:VObj):hc (h.set b o)=(hc h).set b o.ho:=by simp[hc,Q3]
def Z.zZ3{β:Type}(i:Nat)(t:List VV)(h:zQa)(m:List Nat):Option β:=none
@[simp] theorem Z.probe_none{β:Type}(i:Nat)(t:List VV)(h:zQa)(m:List Nat):Z.zZ3 (β:=β) i t h m=none:=rfl
theorem zQm(c:C)(ds:List (El c)):(vecC c ds).length=ds.length*c.cells:=by
 induction ds with
 |nil=>simp[vecC]
 |cons d ds ih=>simp only[vecC,Qn,Q6,zQn,Js]at *;rw[ih,Jz];omega
theorem zYz(c:C)(xs ys:List (El c)):vecC c (xs++ys)=vecC c xs++vecC c ys:=by simp[vecC]
theorem zWg(c:C)(ds:List (El c))(i:Nat):(vecC c ds).drop (i*c.cells)=vecC c (ds.drop i):=by
 induction i generalizing ds with
 |zero=>simp
 | succ i ih=>
  cases ds with
  |nil=>simp[vecC]
  | cons d ds=>
   rw[Jz,Nat.add_comm,←List.drop_drop];have:(vecC c (d::ds)).drop c.cells=vecC c ds:=by
    simp only[vecC,Qn];rw[List.drop_append_of_le_length (by rw[zQn];exact Qf _),K1 (by rw[zQn];exact Qf _)];simp
   rw[this,ih];rfl
theorem zW0(c:C)(ds:List (El c))(i:Nat):(vecC c ds).take (i*c.cells)=vecC c (ds.take i):=by
 induction i generalizing ds with
 |zero=>simp[vecC]
 | succ i ih=>
  cases ds with
  |nil=>simp[vecC]
  |cons d ds=>
   simp only[vecC,Qn,List.take_succ_cons];rw[List.take_append,zQn,show(i+1)*c.cells-c.cells=i*c.cells by rw[Jz];omega]
   rw[Q8 (by rw[zQn,Jz];omega)]
   congr 1;exact ih ds
theorem zW3(c:C)(ds:List (El c)):(vecC c ds).all CV.one=true:=by
 induction ds with
 |nil=>rfl
 |cons d ds ih=>simp only[vecC,Qn,List.all_append,zZw,Kf];exact ih
end Go.Eng
/- Typed operations that turn nothing: each goes on with its answer where what it asks for holds. -/
namespace Go.Eng
set_option linter.unusedVariables false
def vOf1:Value→VV
 | .bool b=>.bool b
 | .int k n=>.int k n
 | .string s=>.str s.data.toList
 | .pointer none=>.nilptr
 | .slice none 0 0=>.nsl
 | .map none=>.nilmap
 | .nilFunc=>.nilfunc
 | .nilIface=>.niliface
 | .func (.func f) ⟨[]⟩ ⟨[]⟩=>.func f [] []
 |_=>.junk
def vOf:Value→VV
 | .agg cs=>if(cs.toList.map vOf1).all VV.one then .agg (cs.toList.map vOf1)else .junk
 | .tuple ⟨[]⟩=>.undef
 |v=>vOf1 v
theorem wJo(v:Value):(vOf1 v).one=true→ofV1 v=some (vOf1 v).cv:=by
 unfold vOf1 ofV1;split<;>simp[VV.one,VV.cv,VV.cvs]
theorem xJb{v:Value}(h:(vOf1 v).one=false):ofV1 v=none:=by
 unfold vOf1 at h;split at h<;>simp only[VV.one,Bool.true_eq_false]at h;unfold ofV1;split<;>simp_all
theorem wZ3(v:Value):(vOf1 v).cv=(ofV1 v).getD .junk:=by
 cases h:(vOf1 v).one with
 |true=>rw[wJo v h];rfl
 |false=>
  rw[xJb h];unfold vOf1 at h⊢;split at h<;>simp only[VV.one,Bool.true_eq_false]at h;rfl
theorem wJn(v:Value):(vOf v).cv=(ofV v).getD .junk:=by
 unfold vOf;split
 ·rename_i cs
  have key:∀l:List Value,(l.map vOf1).all VV.one=false→ofVs l=none:=by
   intro l;induction l with
   |nil=>intro h;simp at h
   |cons x l ih=>
    intro h;simp only[Qh,Jq,Bool.and_eq_false_iff]at h;simp only[ofVs];rcases h with h|h
    ·rw[xJb h]
    ·rw[ih h];cases ofV1 x<;>rfl
  split
  ·rename_i h
   have:∀l:List Value,(l.map vOf1).all VV.one=true→ofVs l=some ((l.map vOf1).map VV.cv):=by
    intro l;induction l with
    |nil=>intro _;rfl
    |cons x l ih=>
     intro h;simp only[Qh,Jq,Qc]at h;simp only[ofVs,wJo x h.1,ih h.2,Qh]
   simp only[ofV,this _ h,VV.cv,VV.zQt];rfl
  ·rename_i h
   simp only[ofV,key _ ((Bool.not_eq_true _).mp h)];rfl
 ·rfl
 ·rename_i h1 h2
  rw[wZ3];congr 1;unfold ofV;split
  ·exact absurd rfl (h1 _)
  ·exact absurd rfl h2
  ·rfl
def evV(g:Nat→Option VV)(tmps:List VV):Operand→VV
 | .tmp t=>tmps.getD t .undef
 | .const v=>vOf v
 | .global i=>(g i).getD .junk
 | .func f=>.func f [] []
theorem evV_cv{g:Nat→Option VV}{cg:Nat→Option CV}(hg:∀i,cg i=(g i).map VV.cv)(tmps:List VV)(x:Operand):ev cg (tmps.map VV.cv) x=(evV g tmps x).cv:=by
 cases x with
 |tmp t=>simp only[ev,evV,List.getD,Qu];cases tmps[t]?<;>rfl
 |const v=>exact(wJn v).symm
 |global i=>simp only[ev,evV,hg];cases g i<;>rfl
 |func f=>rfl
section
variable {β:Type}
def yKh(i:TI)(vs:List VV)(off:Nat)(K:VV→Option β):Option β:=
 if i.agg=true then(if off+i.size≤vs.length then K (.agg ((vs.drop off).take i.size))else none)else
 match vs[off]? with
 |some v=>if v.one=true then K v else none
 |none=>none
theorem zZ4{i:TI}{vs:List VV}{off:Nat}{K:VV→Option β}{r:β}(h:yKh i vs off K=some r):∃v,K v=some r∧zZn i (vs.map VV.cv) off=some v.cv:=by
 unfold yKh at h;unfold zZn;split at h
 ·rename_i ha
  split at h<;>(try (simp at h;done))
  rename_i hl;exact⟨_,h,by simp[ha,hl,VV.cv,VV.zQt,J3,Kb]⟩
 ·rename_i ha
  split at h<;>(try (simp at h;done))
  rename_i v hv;split at h<;>(try (simp at h;done))
  rename_i ho;exact⟨v,h,by simp[ha,hv,VV.wYz,ho]⟩
def isBoolV:VV→Bool
 | .bool _=>true
 |_=>false
def vJ3(c a b:VV)(K:VV→Option β):Option β:=
 match c with
 | .bool t=>match a,b with
  | .bool x, .bool y=>K (.bool (Z.zQ1 t x y))
  |a,b=>match t with
   |true=>K a
   |false=>K b
 |_=>none
theorem vXq{c a b:VV}{K:VV→Option β}{r:β}(h:vJ3 c a b K=some r):∃v,K v=some r∧wKg c.cv a.cv b.cv=some v.cv:=by
 unfold vJ3 at h;split at h<;>(try (simp at h;done))
 rename_i t;split at h
 ·exact⟨_,h,by simp only[VV.cv,wKg];cases t<;>rfl⟩
 ·split at h
  ·exact⟨a,h,by simp[VV.cv,wKg]⟩
  ·exact⟨b,h,by simp[VV.cv,wKg]⟩
def zV1:CV→Option VV
 | .bool b=>some (.bool b)
 | .int k n=>some (.int k n)
 | .str s=>some (.str s)
 | .nilptr=>some .nilptr
 | .slice 0 [] none true=>some .nsl
 | .nilfunc=>some .nilfunc
 | .niliface=>some .niliface
 | .nilmap=>some .nilmap
 |_=>none
def zV:List CV→Option (List VV)
 |[]=>some []
 |c::cs=>match zV1 c,zV cs with
  |some v,some vs=>some (v::vs)
  |_,_=>none
theorem zV1_cv{c:CV}{v:VV}(h:zV1 c=some v):v.cv=c:=by
 unfold zV1 at h;split at h<;>simp at h<;>subst h<;>rfl
theorem vXb:∀{cs:List CV} {vs:List VV},zV cs=some vs→vs.map VV.cv=cs
 |[],vs,h=>by simp[zV]at h;subst h;rfl
 |c::cs,vs,h=>by
  simp only[zV]at h;split at h<;>simp at h;rename_i v vs' h1 h2;subst h;simp[zV1_cv h1,vXb h2]
def cOf(ty:Ty):Nat→TypeId→Option C
 |0,_=>none
 | n+1,t=>match ty t with
  |none=>none
  |some i=>match i.desc with
   | .bool=>some .bool
   | .int k=>some (.int k)
   | .string=>some .str
   | .slice e=>(cOf ty n e).map .list
   | .array len e=>(cOf ty n e).map (.arr len)
   | .struct fs=>fs.toList.foldr (fun f r=>match r,cOf ty n f.type with
     |some b,some a=>some (.pair a b)
     |_,_=>none) (some .unit)
   |_=>none
def vW3(ty:Ty)(n:Nat)(t:TypeId)(K:VV→Option VObj→Option β):Option β:=
 match ty t with
 | some j=>match j.desc with
  | .array len e=>match cOf ty 8 e with
   |some c=>if CV.yXn (vecC c (List.replicate len (dfl c))) j.zero=true then K (.ptr n 0) (some (.vec c (Z.rep len (dfl c))))else none
   |none=>none
  |_=>match zV j.zero with
   |some vs=>K (.ptr n 0) (some (.cells vs))
   |none=>none
 |none=>none
theorem vW2{ty:Ty}{n:Nat}{t:TypeId}{K:VV→Option VObj→Option β}{r:β}(h:vW3 ty n t K=some r):
  ∃v o,K v o=some r∧(ty t).map (fun j=>(CV.ptr n 0,some (HObj.cells j.zero)))=some (v.cv,o.map VObj.ho):=by
 unfold vW3 at h;split at h<;>(try (simp at h;done))
 rename_i j hj;split at h
 ·split at h<;>(try (simp at h;done))
  split at h<;>(try (simp at h;done))
  rename_i hs;exact⟨_,_,h,by simp[hj,VV.cv,VObj.ho,CV.zXz _ _ hs]⟩
 ·split at h<;>(try (simp at h;done))
  rename_i vs hz;exact⟨_,_,h,by simp[hj,VV.cv,VObj.ho,vXb hz]⟩
def boxV(n:Nat)(x:VV)(K:VV→Option VObj→Option β):Option β:=
 match x with
 | .junk=>none
 | .av len c ds=>K (.ptr n 0) (some (.vec c (Z.norm len ds (dfl c))))
 |v=>K (.ptr n 0) (some (.cells v.flat))
theorem uQi{n:Nat}{x:VV}{K:VV→Option VObj→Option β}{r:β}(h:boxV n x K=some r):∃v o,K v o=some r∧boxC n x.cv=some (v.cv,o.map VObj.ho):=by
 unfold boxV at h;split at h<;>(try (simp at h;done))
 ·rename_i len c ds
  refine⟨_,_,h, ?_⟩;simp only[VV.cv,valC,boxC,VObj.ho,Jn,vecC,Qx,flat_agg]
 ·rename_i h1 h2
  refine⟨_,_,h, ?_⟩;have:boxC n x.cv=some (.ptr n 0,some (.cells x.cv.flat)):=by
   unfold boxC;cases x<;>first|rfl|exact absurd rfl h1|exact absurd rfl (h2 _ _ _)|(rename_i d;cases d<;>rfl)
  rw[this,VV.zJn];rfl
def wWk(place:Nat→Option (Nat×Nat))(cells:List VV):List (Nat×VV)→Option (List VV)
 |[]=>some cells
 | (i,v)::rest=>
  match place i with
  |none=>none
  |some (off,size)=>
   if v.flat.length=size∧off+size≤cells.length∧v.flat.all VV.one=true then wWk place (zQh cells off v.flat) rest else none
theorem yWt{α γ:Type}(f:α→γ)(cs:List α)(off:Nat)(news:List α):(zQh cs off news).map f=zQh (cs.map f) off (news.map f):=by
 simp[zQh,J3,Kb]
theorem xX6(vs:List VV):(vs.map VV.cv).all CV.one=vs.all VV.one:=by
 induction vs with
 |nil=>rfl
 |cons v vs ih=>simp only[Qh,Jq,VV.wYz,ih]
theorem yJ9{place:Nat→Option (Nat×Nat)}:∀{parts:List (Nat×VV)} {cells vs:List VV},wWk place cells parts=some vs→yZv place (cells.map VV.cv) (parts.map fun p=>(p.1,p.2.cv))=some (vs.map VV.cv)
 |[],cells,vs,h=>by simp[wWk]at h;subst h;rfl
 |(i,v)::rest,cells,vs,h=>by
  simp only[wWk]at h;simp only[Qh,yZv];split at h<;>(try (simp at h;done))
  rename_i off size hp;split at h<;>(try (simp at h;done))
  rename_i hc;rw[hp];simp only[VV.zJn,Qg,xX6];rw[if_pos hc,←yWt];exact yJ9 h
def vWo(ty:Ty)(t:TypeId)(parts:List (Nat×VV))(K:VV→Option β):Option β:=
 match ty t with
 | some i=>match zV i.zero with
  | some z=>match i.desc with
   | .struct fs=>
    if(fs.toList.all fun f=>(ty f.type).isSome)=true then
     match wWk (zJo ty fs) z parts with
     |some vs=>K (.agg vs)
     |none=>none
    else none
   | .array _ e=>match ty e with
    |some j=>match wWk (fun k=>some (k*j.size,j.size)) z parts with
     |some vs=>K (.agg vs)
     |none=>none
    |none=>none
   |_=>none
  |none=>none
 |none=>none
theorem vWn{ty:Ty}{t:TypeId}{parts:List (Nat×VV)}{K:VV→Option β}{r:β}(h:vWo ty t parts K=some r):∃v,K v=some r∧xYx ty t (parts.map fun p=>(p.1,p.2.cv))=some v.cv:=by
 unfold vWo at h;unfold xYx;split at h<;>(try (simp at h;done))
 rename_i i hi;split at h<;>(try (simp at h;done))
 rename_i z hz;have hzc:=vXb hz;split at h<;>(try (simp at h;done))
 ·rename_i fs hd
  split at h<;>(try (simp at h;done))
  rename_i hall;split at h<;>(try (simp at h;done))
  rename_i vs hf;refine⟨_,h, ?_⟩;have:=yJ9 hf;rw[hzc]at this;simp[hi,hd,hall,this,VV.cv,VV.zQt]
 ·rename_i n e hd
  split at h<;>(try (simp at h;done))
  rename_i j hj;split at h<;>(try (simp at h;done))
  rename_i vs hf;refine⟨_,h, ?_⟩;have:=yJ9 hf;rw[hzc]at this;simp[hi,hd,hj,this,VV.cv,VV.zQt]
def xYj(k:IntKind):List VV→Option (List Int)
 |[]=>some []
 | v::vs=>match v with
  | .int k' n=>if k'=k then(match xYj k vs with
   |some ns=>some (n::ns)
   |none=>none)else none
  |_=>none
def arrW(n:Nat):(c:C)→List VV→Option (List (El c))
 | .int k,vs=>if vs.length=n then xYj k vs else none
 |_,_=>none
theorem xKa{k:IntKind}:∀{vs:List VV} {ns:List Int},xYj k vs=some ns→ns.length=vs.length∧vs.map VV.cv=ns.map (CV.int k)
 |[],ns,h=>by simp[xYj]at h;subst h;exact⟨rfl,rfl⟩
 |v::vs,ns,h=>by
  simp only[xYj]at h;split at h<;>(try (simp at h;done))
  split at h<;>(try (simp at h;done))
  rename_i k' n hk;subst hk;split at h<;>(try (simp at h;done))
  rename_i ns' hns;simp at h;subst h;obtain⟨h1,h2⟩:=xKa hns;exact⟨by simp[h1],by simp[h2,VV.cv]⟩
theorem wYn(k:IntKind)(ds:List Int):((List.range ds.length).flatMap fun i=>(valC (.int k) (ds.getD i (dfl (.int k)))).flat)=ds.map (CV.int k):=by
 have:∀l:List Nat,(l.flatMap fun i=>(valC (.int k) (ds.getD i (dfl (.int k)))).flat)=l.map fun i=>CV.int k (ds.getD i 0):=by
  intro l;induction l with
  |nil=>rfl
  |cons i l ih=>rw[Qn,ih];rfl
 rw[this];apply Ji;intro i;by_cases hi:i<ds.length
 ·simp[hi,List.getD]
 ·simp[hi]
theorem wW1{n:Nat}{c:C}{vs:List VV}{d:List (El c)}(h:arrW n c vs=some d):vs.map VV.cv=(valC (.arr n c) d).flat:=by
 unfold arrW at h;split at h
 ·split at h<;>(try (simp at h;done))
  rename_i k hl;obtain⟨h1,h2⟩:=xKa h;rw[h2];simp only[valC,flat_agg];rw[←hl,←h1];exact(wYn k d).symm
 ·simp at h
def deV:(c:C)→List VV→Option (El c)
 | .bool,vs=>match vs with
  |[.bool b]=>some b
  |_=>none
 | .int k,vs=>match vs with
  |[.int k' n]=>if k=k' then some n else none
  |_=>none
 | .str,vs=>match vs with
  |[.str s]=>some s
  |_=>none
 | .list c,vs=>match vs with
  |[.sl c' ds none false]=>if h:c'=c then some (h▸ds)else none
  |_=>none
 | .unit,vs=>match vs with
  |[]=>some ()
  |_=>none
 | .pair a b,vs=>match deV a (vs.take a.cells),deV b (vs.drop a.cells)with
  |some x,some y=>some (x,y)
  |_,_=>none
 | .arr n c,vs=>arrW n c vs
 | .mix b c,vs=>match vs with
  |[.mix b' c' d]=>if h:b'=b∧c'=c then some (h.2▸d)else none
  |[.sl c' ds none false]=>if h:c'=c then some (Z.yZ7 (h▸ds))else none
  |[.nsl]=>some Z.xnil
  |_=>none
theorem xQz:∀{c:C} {vs:List VV} {d:El c},deV c vs=some d→vs.map VV.cv=(valC c d).flat
 | .bool,vs,d,h=>by
  simp only[deV]at h;split at h<;>simp at h;subst h;rfl
 | .int k,vs,d,h=>by
  simp only[deV]at h;split at h<;>(try (simp at h;done))
  split at h<;>simp at h;rename_i hk;subst hk;subst h;rfl
 | .str,vs,d,h=>by
  simp only[deV]at h;split at h<;>simp at h;subst h;rfl
 | .list c,vs,d,h=>by
  simp only[deV]at h;split at h<;>(try (simp at h;done))
  split at h<;>simp at h;rename_i hk;subst hk;subst h;rfl
 | .unit,vs,d,h=>by
  simp only[deV]at h;split at h<;>simp at h;rfl
 | .pair a b,vs,d,h=>by
  simp only[deV]at h;split at h<;>simp at h;rename_i x y hx hy;subst h;rw[←Q1 a.cells vs,Qr,xQz hx,xQz hy];rfl
 | .arr n c,vs,d,h=>by
  simp only[deV]at h;exact wW1 h
 | .mix b c,vs,d,h=>by
  simp only[deV]at h;split at h<;>(try (simp at h;done))
  ·split at h<;>simp at h
   rename_i hk;obtain⟨rfl,rfl⟩:=hk;subst h;simp only[Qh,Qy,VV.cv,valC,zWj]
  ·split at h<;>simp at h
   rename_i hk;subst hk;subst h;rfl
  ·simp at h;subst h;rfl
end
end Go.Eng
/- Typed operations that read. -/
namespace Go.Eng
set_option linter.unusedVariables false
section
variable {β:Type} {ty:Ty} {h:zQa} {K:VV→Option β} {r:β}
theorem zWd{b:Nat}{vs:List VV}(hb:h[b]?=some (.cells vs)):(hc h)[b]?=some (.cells (vs.map VV.cv)):=by rw[zQy,hb];rfl
theorem zWx{b:Nat}{c:C}{ds:List (El c)}(hb:h[b]?=some (.vec c ds)):(hc h)[b]?=some (.cells (vecC c ds)):=by rw[zQy,hb];rfl
def zZv(h:zQa)(b:Nat):Bool:=
 match h[b]? with
 |some .dead=>false
 |none=>false
 |some _=>true
theorem zQ6(h:zQa)(b:Nat):live (hc h) b=zZv h b:=by
 unfold live zZv;rw[zQy];cases h[b]? with
 |none=>rfl
 |some o=>cases o<;>rfl
theorem xZs{j:TI}{c:C}{ds:List (El c)}{i:Nat}(ha:j.agg=c.agg)(hs:j.size=c.cells)(hi:i<ds.length)(h1:j.agg=false→j.size=1):zZn j (vecC c ds) (i*c.cells)=some (valC c (ds.getD i (dfl c))):=by
 have hd:(vecC c ds).drop (i*c.cells)=(valC c (ds.getD i (dfl c))).flat++vecC c (ds.drop (i+1)):=by
  rw[zWg];have:ds.drop i=ds.getD i (dfl c)::ds.drop (i+1):=by
   rw[Kl hi];simp[List.getD,hi]
  rw[this];rfl
 have hlen:=zQm c ds;have hle:i*c.cells+c.cells≤ds.length*c.cells:=by rw[←Jz];exact Ql _ hi
 unfold zZn;cases hag:j.agg with
 |true=>
  rw[if_pos rfl,if_pos (by rw[hs];omega),hd,hs]
  rw[Ky (by rw[zQn];exact Qf _),Q8 (by rw[zQn];exact Qf _)]
  rw[hag]at ha;cases c<;>simp[C.agg]at ha<;>rfl
 | false=>
  have hz:=h1 hag;rw[hag]at ha;have hone:=zZw c (ds.getD i (dfl c));have hfl:(valC c (ds.getD i (dfl c))).flat=[valC c (ds.getD i (dfl c))]:=by cases c<;>simp[C.agg]at ha<;>first|rfl|exact zWj _ _ _ _
  rw[hfl]at hone hd;simp at hone;have hget:(vecC c ds)[i*c.cells]?=some (valC c (ds.getD i (dfl c))):=by
   have:=congrArg (fun l=>l[0]?) hd
   simpa using this
  simp[hget,hone]
theorem yWe{b:Nat}{c:C}{dss:List (List (El c))}(hb:h[b]?=some (.rows c dss)):(hc h)[b]?=some (.rows (dss.map (vecC c))):=by rw[zQy,hb];rfl
theorem zKt{b:Nat}{c:C}{dss:List (List (El c))}(hb:h[b]? =some (.rows c dss)){k gen:Nat}(hk:k<dss.length)(hg:gen=(dss.getD k []).length):
  rowG (hc h) b k (gen*c.cells)=some (vecC c (dss.getD k [])):=by
 unfold rowG;rw[yWe hb];simp only[Qu];have e:dss[k]?=some (dss.getD k []):=by simp[List.getD,hk]
 rw[e];simp only[Jn,zQm,hg,if_true]
theorem yZ6{α:Type}{m:List (List α)}{d:MixE α}{i:Nat}(h:d.xpt m i=true):
  ∃k off n gen,d=.ref k off n gen∧k<m.length∧gen=(m.getD k []).length∧off+n≤gen∧i<n:=by
 cases d with
 |ref k off n gen=>simp only[MixE.xpt,Qc,decide_eq_true_eq,beq_iff_eq]at h;exact⟨k,off,n,gen,rfl,h.1,h.2.1,h.2.2.1,h.2.2.2⟩
 |_=>simp[MixE.xpt]at h
def fitC(j:TI)(c:C):Bool:=j.agg==c.agg&&j.size==c.cells&&(j.agg||j.size==1)
theorem zXl{j:TI}{c:C}(h:fitC j c=true):j.agg=c.agg∧j.size=c.cells∧(j.agg=false→j.size=1):=by
 simp only[fitC,Qc,beq_iff_eq,J9]at h;exact⟨h.1.1,h.1.2,fun ha=>by rcases h.2 with h2|h2<;>simp_all⟩
def vX5 (ty:Ty)(h:zQa)(t:TypeId)(x:VV)(K:VV→Option β):Option β:=
  match ty t with
  | some j =>
    match x with
    | .ptr b off=>match h[b]? with
      |some (.cells vs)=>yKh j vs off K
      | some (.vec c ds)=>match off,j.desc with
        |0, .array n _=>if j.size=n*c.cells∧j.agg=true then(if Z.EqN (Z.len ds) n then K (.av n c ds)else none)else none
        |_,_=>none
      |_=>none
    | .ptrE b i c=>match h[b]? with
      |some (.vec c' ds)=>if c'=c∧fitC j c'=true then(if Z.Lt i (Z.len ds)then Z.bnd (Z.get ds i (dfl c')) fun x=>K (valV c' x)else none)else none
      |_=>none
    | .ptrF b i c o=>match h[b]? with
      |some (.vec c' ds)=>if c'=c then(if Z.Lt i (Z.len ds)then Z.bnd (Z.get ds i (dfl c')) fun x=>yKh j (zK4 c' x) o K else none)else none
      |_=>none
    | .xptr b c d i o=>match h[b]? with
      |some (.rows c' dss)=>if hcc:c'=c then(if Z.XPt (hcc▸dss:List (List (El c))) d i then
          (if o=0∧fitC j c=true then Z.bnd (Z.xat (hcc▸dss:List (List (El c))) d i (dfl c)) fun x=>K (valV c x)
           else Z.bnd (Z.xat (hcc▸dss:List (List (El c))) d i (dfl c)) fun x=>yKh j (zK4 c x) o K)else none)else none
      |_=>none
    | .rop v=>match v with
      | .agg vs=>if j.agg=true∧vs.length=j.size then K (.agg vs)else none
      | .av n c ds=>if j.agg=true∧n*c.cells=j.size then K (.av n c ds)else none
      |v=>if(!j.agg)=true∧v.one=true then K v else none
    |_=>none
  |none=>none
theorem av_len(n:Nat)(c:C)(ds:List (El c)):((List.range n).flatMap fun i=>(valC c (ds.getD i (dfl c))).flat).length=n*c.cells:=zQn (.arr n c) ds
theorem wYu{j:TI}{c:C}{ds:List (El c)}{i o:Nat}{v:CV}(hi:i<ds.length)(h:zZn j (valC c (ds.getD i (dfl c))).flat o=some v):zZn j (vecC c ds) (i*c.cells+o)=some v:=by
 have e1:ds.getD i (dfl c)=ds[i]:=by simp[List.getD,hi]
 rw[e1]at h;have hd:(vecC c ds).drop (i*c.cells)=(valC c ds[i]).flat++vecC c (ds.drop (i+1)):=by
  rw[zWg,Kl hi];rfl
 have hl:i*c.cells+c.cells≤(vecC c ds).length:=by rw[zQm,←Jz];exact Ql _ hi
 unfold zZn at h⊢;split at h
 ·rename_i ha
  rw[if_pos ha];split at h
  ·rename_i hle
   rw[zQn]at hle;rw[if_pos (by omega),←List.drop_drop,hd]
   rw[←h];congr 2;rw[List.drop_append_of_le_length (by rw[zQn];omega),Ky (by rw[List.length_drop,zQn];omega)]
  ·simp at h
 ·rename_i ha
  rw[if_neg ha];have:(vecC c ds)[i*c.cells+o]?=((vecC c ds).drop (i*c.cells))[o]?:=by rw[Jg]
  rw[this,hd];cases hx:(valC c ds[i]).flat[o]? with
  |none=>rw[hx]at h;simp at h
  |some x=>
   rw[Qb (Qa.1 hx).1,hx];rw[hx]at h;exact h
theorem wZb{t:TypeId}{x:VV}(he:vX5 ty h t x K=some r):∃v,K v=some r∧yKp ty (hc h) t x.cv=some v.cv:=by
 unfold vX5 at he;unfold yKp;split at he<;>(try (simp at he;done))
 rename_i j hj;split at he<;>(try (simp at he;done))
 ·rename_i b off
  split at he<;>(try (simp at he;done))
  ·rename_i vs hb
   obtain⟨v,h1,h2⟩:=zZ4 he;exact⟨v,h1,by simp only[hj,VV.cv,zWd hb];exact h2⟩
  ·rename_i c ds hb
   split at he<;>(try (simp at he;done))
   rename_i n e hd;split at he<;>(try (simp at he;done))
   rename_i hcond;obtain⟨h2,h3⟩:=hcond;split at he<;>(try (simp at he;done))
   rename_i h1;replace h1:ds.length=n:=h1;refine⟨_,he, ?_⟩;simp only[hj,VV.cv,zWx hb];unfold zZn;have hl:=zQm c ds;rw[if_pos h3,if_pos (by rw[h2,hl,h1];omega),J1,Q8 (by rw[hl,h1,h2];exact Qf _)]
   congr 1;simp only[valC];congr 1;subst h1;have:∀(l:List (El c)),vecC c l=(List.range l.length).flatMap fun i=>(valC c (l.getD i (dfl c))).flat:=by
    intro l;have e:l=(List.range l.length).map fun i=>l.getD i (dfl c):=by
     apply Ji;intro i;by_cases hi:i<l.length<;>simp[hi,List.getD]
    unfold vecC
    conv=>lhs;rw[e]
    rw[Qx]
   exact this ds
 ·rename_i b i c
  split at he<;>(try (simp at he;done))
  rename_i c' ds hb;split at he<;>(try (simp at he;done))
  rename_i hcond;obtain⟨rfl,hfit⟩:=hcond;split at he<;>(try (simp at he;done))
  rename_i hi;obtain⟨f1,f2,f3⟩:=zXl hfit;refine⟨_,he, ?_⟩;simp only[hj,VV.cv,zWx hb,zQq];exact xZs f1 f2 hi f3
 ·rename_i b i c o
  split at he<;>(try (simp at he;done))
  rename_i c' ds hb;split at he<;>(try (simp at he;done))
  rename_i hcc;subst hcc;split at he<;>(try (simp at he;done))
  rename_i hi;obtain⟨v,h1,h2⟩:=zZ4 he;refine⟨v,h1, ?_⟩;simp only[hj,VV.cv,zWx hb];rw[zZ8]at h2;exact wYu hi h2
 ·rename_i b c d i o
  split at he<;>(try (simp at he;done))
  rename_i c' dss hb;split at he<;>(try (simp at he;done))
  rename_i hcc;subst hcc;split at he<;>(try (simp at he;done))
  rename_i hx;obtain⟨k,off,n,gen,rfl,h1,h2,h3,h4⟩:=yZ6 hx;replace h1:k<dss.length:=h1;replace h2:gen=(dss.getD k []).length:=h2;have hi:off+i<(dss.getD k []).length:=by omega
  split at he
  ·rename_i hcond
   obtain⟨rfl,hfit⟩:=hcond;obtain⟨f1,f2,f3⟩:=zXl hfit;refine⟨_,he, ?_⟩;simp only[hj,VV.cv,zKt hb h1 h2,Kg,zQq];exact xZs f1 f2 hi f3
  ·obtain⟨v,e1,e2⟩:=zZ4 he
   refine⟨v,e1, ?_⟩;simp only[hj,VV.cv,zKt hb h1 h2];rw[zZ8]at e2;exact wYu hi e2
 ·rename_i v
  split at he
  ·split at he<;>(try (simp at he;done))
   rename_i vs hcond;exact⟨_,he,by simp only[hj,VV.cv,VV.zQt,Qg];rw[if_pos hcond]⟩
  ·split at he<;>(try (simp at he;done))
   rename_i n c ds hcond;exact⟨_,he,by simp only[hj,VV.cv,valC];rw[if_pos ⟨hcond.1,by rw[av_len];exact hcond.2⟩]⟩
  ·rename_i hn1 hn2
   split at he<;>(try (simp at he;done))
   rename_i hcond;refine⟨_,he, ?_⟩;simp only[hj,VV.cv];split
   ·rename_i cs hcs
    cases v<;>simp[VV.cv,zWk]at hcs
    ·rename_i n c ds;exact absurd rfl (hn2 n c ds)
    ·rename_i d;cases d<;>simp[valC,mixC]at hcs
    ·rename_i vs;exact absurd rfl (hn1 vs)
   ·rw[VV.wYz,if_pos hcond]
def xQk(h:zQa)(x:VV)(K:VV→Option β):Option β:=
 match x with
 | .ptr b off=>if zZv h b=true then K (.ptr b off)else none
 | .ptrE b i c=>if zZv h b=true then K (.ptrE b i c)else none
 | .ptrF b i c o=>if zZv h b=true then K (.ptrF b i c o)else none
 | .xptr b c d i o=>match h[b]? with
  |some (.rows c' dss)=>if hcc:c'=c then(if Z.XPt (hcc▸dss:List (List (El c))) d i then K (.xptr b c d i o)else none)else none
  |_=>none
 | .rop v=>K (.rop v)
 | .func f xs ys=>K (.func f xs ys)
 |_=>none
theorem xJ4{x:VV}(he:xQk h x K=some r):∃v,K v=some r∧zWw (hc h) x.cv=some v.cv:=by
 unfold xQk at he;split at he<;>(try (simp at he;done))
 ·split at he<;>(try (simp at he;done))
  rename_i hl;exact⟨_,he,by simp[VV.cv,zWw,zQ6,hl]⟩
 ·split at he<;>(try (simp at he;done))
  rename_i hl;exact⟨_,he,by simp[VV.cv,zWw,zQ6,hl]⟩
 ·split at he<;>(try (simp at he;done))
  rename_i hl;exact⟨_,he,by simp[VV.cv,zWw,zQ6,hl]⟩
 ·rename_i b c d i o
  split at he<;>(try (simp at he;done))
  rename_i c' dss hb;split at he<;>(try (simp at he;done))
  rename_i hcc;subst hcc;split at he<;>(try (simp at he;done))
  rename_i hx;obtain⟨k,off,n,gen,rfl,h1,h2,h3,h4⟩:=yZ6 hx;replace h1:k<dss.length:=h1;replace h2:gen=(dss.getD k []).length:=h2;exact⟨_,he,by simp only[VV.cv,zWw,zKt hb h1 h2]⟩
 ·exact⟨_,he,by simp[VV.cv,zWw]⟩
 ·exact⟨_,he,by simp[VV.cv,zWw]⟩
def intV(op:BinOp)(k:IntKind)(a b:Int)(K:VV→Option β):Option β:=
 match op with
 | .add=>Z.bnd (Z.wrap k (Z.add a b)) fun x=>K (.int k x)
 | .sub=>Z.bnd (Z.wrap k (Z.sub a b)) fun x=>K (.int k x)
 | .mul=>Z.bnd (Z.wrap k (Z.mul a b)) fun x=>K (.int k x)
 | .quo=>if Z.IsZ b then none else Z.bnd (Z.wrap k (Z.tdiv a b)) fun x=>K (.int k x)
 | .rem=>if Z.IsZ b then none else Z.bnd (Z.tmod a b) fun x=>K (.int k x)
 | .and=>Z.bnd (Z.band k a b) fun x=>K (.int k x)
 | .or=>Z.bnd (Z.bor k a b) fun x=>K (.int k x)
 | .xor=>Z.bnd (Z.bxor k a b) fun x=>K (.int k x)
 | .andNot=>Z.bnd (Z.bandn k a b) fun x=>K (.int k x)
 | .eql=>K (.bool (Z.ieq a b))
 | .neq=>K (.bool (Z.ine a b))
 | .lss=>K (.bool (Z.ilt a b))
 | .leq=>K (.bool (Z.ile a b))
 | .gtr=>K (.bool (Z.igt a b))
 | .geq=>K (.bool (Z.ige a b))
 | .shl| .shr=>none
theorem vYo{op:BinOp}{k:IntKind}{a b:Int}(he:intV op k a b K=some r):∃v,K v=some r∧intC op k a b=some v.cv:=by
  unfold intV at he;split at he<;>(try (simp at he;done))<;>first
    |exact⟨_,he,rfl⟩
    | (split at he<;>(try (simp at he;done))
       rename_i hb;exact⟨_,he,by simp[intC,hb,VV.cv]⟩)
def wXr(op:BinOp)(k:IntKind)(a b:Int)(K:VV→Option β):Option β:=
 match op with
 | .shl=>if Z.Neg b then none else Z.bnd (Z.shl k a b) fun x=>K (.int k x)
 | .shr=>if Z.Neg b then none else Z.bnd (Z.shr k a b) fun x=>K (.int k x)
 |_=>none
theorem xJg{op:BinOp}{k:IntKind}{a b:Int}(he:wXr op k a b K=some r):∃v,K v=some r∧xJh op k a b=some v.cv:=by
  unfold wXr at he;split at he<;>(try (simp at he;done))<;>
    (split at he<;>(try (simp at he;done))
     rename_i hb;exact⟨_,he,by simp[xJh,hb,VV.cv]⟩)
def strV(op:BinOp)(a b:List UInt8)(K:VV→Option β):Option β:=
 match op with
 | .add=>if Z.SBig (Z.len a) (Z.len b)then Z.bnd (Z.app a b) fun x=>K (.str x)else none
 | .eql=>K (.bool (Z.seq a b))
 | .neq=>K (.bool (Z.sne a b))
 | .lss=>K (.bool (Z.slt a b))
 |_=>none
theorem vK7{op:BinOp}{a b:List UInt8}(he:strV op a b K=some r):∃v,K v=some r∧strC op a b=some v.cv:=by
 unfold strV at he;split at he<;>(try (simp at he;done))
 ·split at he<;>(try (simp at he;done))
  rename_i hb;exact⟨_,he,by simp only[strC];rw[if_pos hb];rfl⟩
 all_goals exact⟨_,he,rfl⟩
def unV(op:UnOp)(x:VV)(K:VV→Option β):Option β:=
 match op,x with
 | .not, .bool b=>K (.bool (Z.bnot b))
 | .neg, .int k n=>Z.bnd (Z.wrap k (Z.sub 0 n)) fun x=>K (.int k x)
 | .xor, .int k n=>Z.bnd (Z.bxor k (if k.signed then -1 else k.max) n) fun x=>K (.int k x)
 |_,_=>none
theorem unV_ok{op:UnOp}{x:VV}(he:unV op x K=some r):∃v,K v=some r∧unC op x.cv=some v.cv:=by
 unfold unV at he;split at he<;>(try (simp at he;done))<;>exact⟨_,he,rfl⟩
def yKu(ty:Ty)(h:zQa)(s:TypeId)(x:VV)(f:Nat)(K:VV→Option β):Option β:=
 match ty s with
 | some i=>match i.desc with
  | .struct fs=>match fs[f]? with
   | some fld=>match ty fld.type with
    | some j=>if j.size=0 then none else
     match x with
     | .ptr b off=>if zZv h b=true then K (.ptr b (off+fld.offset))else none
     | .ptrE b i c=>if zZv h b=true then K (.ptrF b i c fld.offset)else none
     | .ptrF b i c o=>if zZv h b=true then K (.ptrF b i c (o+fld.offset))else none
     | .xptr b c d i o=>match h[b]? with
      |some (.rows c' dss)=>if hcc:c'=c then(if Z.XPt (hcc▸dss:List (List (El c))) d i then K (.xptr b c d i (o+fld.offset))else none)else none
      |_=>none
     | .rop v=>yKh j v.flat fld.offset fun u=>K (.rop u)
     |_=>none
    |none=>none
   |none=>none
  |_=>none
 |none=>none
theorem xKl{s:TypeId}{x:VV}{f:Nat}(he:yKu ty h s x f K=some r):∃v,K v=some r∧zXe ty (hc h) s x.cv f=some v.cv:=by
 unfold yKu at he;unfold zXe;split at he<;>(try (simp at he;done))
 rename_i i hi;split at he<;>(try (simp at he;done))
 rename_i fs hd;split at he<;>(try (simp at he;done))
 rename_i fld hf;split at he<;>(try (simp at he;done))
 rename_i j hj;split at he<;>(try (simp at he;done))
 rename_i hz;split at he<;>(try (simp at he;done))
 ·split at he<;>(try (simp at he;done))
  rename_i hl;exact⟨_,he,by simp[hi,hd,hf,hj,hz,VV.cv,zQ6,hl]⟩
 ·split at he<;>(try (simp at he;done))
  rename_i hl;exact⟨_,he,by simp[hi,hd,hf,hj,hz,VV.cv,zQ6,hl]⟩
 ·split at he<;>(try (simp at he;done))
  rename_i hl;exact⟨_,he,by simp[hi,hd,hf,hj,hz,VV.cv,zQ6,hl,Jh]⟩
 ·rename_i b c d i0 o
  split at he<;>(try (simp at he;done))
  rename_i c' dss hb;split at he<;>(try (simp at he;done))
  rename_i hcc;subst hcc;split at he<;>(try (simp at he;done))
  rename_i hx;obtain⟨k,off,n,gen,rfl,h1,h2,h3,h4⟩:=yZ6 hx;replace h1:k<dss.length:=h1;replace h2:gen=(dss.getD k []).length:=h2;exact⟨_,he,by simp only[hi,hd,hf,hj,hz,VV.cv,zKt hb h1 h2,if_false,Jh]⟩
 ·obtain⟨u,h1,h2⟩:=zZ4 he
  exact⟨_,h1,by simp[hi,hd,hf,hj,hz,VV.cv,VV.zJn,h2]⟩
def vQy(ty:Ty)(t:TypeId)(x:VV)(f:Nat)(K:VV→Option β):Option β:=
 match ty t,x with
 | some i, .agg vs=>match i.desc with
  | .struct fs=>match fs[f]? with
   |some fld=>match ty fld.type with
    |some j=>yKh j vs fld.offset K
    |none=>none
   |none=>none
  |_=>none
 |_,_=>none
theorem vQx{t:TypeId}{x:VV}{f:Nat}(he:vQy ty t x f K=some r):∃v,K v=some r∧xYo ty t x.cv f=some v.cv:=by
 unfold vQy at he;split at he<;>(try (simp at he;done))
 rename_i i vs hi;split at he<;>(try (simp at he;done))
 rename_i fs hd;split at he<;>(try (simp at he;done))
 rename_i fld hf;split at he<;>(try (simp at he;done))
 rename_i j hj;obtain⟨u,h1,h2⟩:=zZ4 he;exact⟨_,h1,by simp[xYo,hi,hd,hf,hj,VV.cv,VV.zQt,h2]⟩
def yKr (ty:Ty)(h:zQa)(t:TypeId)(x ix:VV)(K:VV→Option β):Option β:=
 match ix with
 | .int _ n=>
  match ty t with
  | some i=>match i.desc with
   | .array len e=>match ty e with
    | some j=>if Z.In n len then
      match x with
      | .ptr b off=>match h[b]? with
       |some (.vec c ds)=>if off=0∧j.size=c.cells then K (.ptrE b (Z.toN n) c)else none
       |some (.cells _)=>K (.ptr b (off+n.toNat*j.size))
       |_=>none
      | .rop (.av m c ds)=>if m=len∧fitC j c=true then Z.bnd (Z.get ds (Z.toN n) (dfl c)) fun x=>K (.rop (valV c x))else none
      | .rop (.agg vs)=>yKh j vs (n.toNat*j.size) fun u=>K (.rop u)
      |_=>none
     else none
    |none=>none
   | .slice e=>match ty e with
    | some j=>
      match x with
      | .sl c ds _ _=>if c.cells=j.size then(if Z.Ix n (Z.len ds)then Z.bnd (Z.get ds (Z.toN n) (dfl c)) fun x=>K (.rop (valV c x))else none)else none
      | .sref b off len _ _ c=>if c.cells=j.size then(if Z.In n len then match h[b]? with
        |some (.vec c' ds)=>(match decide (c'.cells=c.cells)with
         |true=>K (.ptrE b (Z.addN off (Z.toN n)) c')
         |false=>K (.ptrE b (Z.addN off (Z.toN n)) c))
        |some (.cells _)=>K (.ptr b ((off+n.toNat)*c.cells))
        |_=>none
       else none)else none
      | .mix b c d=>if c.cells=j.size then(match h[b]? with
        |some (.rows c' dss)=>if hcc:c'=c then(if Z.Ix n (Z.xlen d)then(if Z.XPt (hcc▸dss:List (List (El c))) d (Z.toN n)then K (.xptr b c d (Z.toN n) 0)else none)else none)else none
        |_=>none)else none
      |_=>none
    |none=>none
   |_=>none
  |none=>none
 |_=>none
theorem vWw{j:TI}{c:C}{m:Nat}{ds:List (El c)}{i:Nat}(ha:j.agg=c.agg)(hs:j.size=c.cells)(hi:i<m)(h1:j.agg=false→j.size=1):zZn j ((List.range m).flatMap fun i=>(valC c (ds.getD i (dfl c))).flat) (i*c.cells)=some (valC c (ds.getD i (dfl c))):=by
 have:((List.range m).flatMap fun i=>(valC c (ds.getD i (dfl c))).flat)=vecC c ((List.range m).map fun i=>ds.getD i (dfl c)):=by simp[vecC,Qx]
 rw[this,xZs ha hs (by simpa using hi) h1]
 congr 2;simp[List.getD,hi]
theorem xKb{t:TypeId}{x ix:VV}(he:yKr ty h t x ix K=some r):∃v,K v=some r∧zW7 ty (hc h) t x.cv ix.cv=some v.cv:=by
 unfold yKr at he;unfold zW7;split at he<;>(try (simp at he;done))
 rename_i k n;split at he<;>(try (simp at he;done))
 rename_i i hi;split at he<;>(try (simp at he;done))
 ·rename_i len e hd
  split at he<;>(try (simp at he;done))
  rename_i j hj;split at he<;>(try (simp at he;done))
  rename_i hn;split at he<;>(try (simp at he;done))
  ·rename_i b off
   split at he<;>(try (simp at he;done))
   ·rename_i c ds hb
    split at he<;>(try (simp at he;done))
    rename_i hcond;obtain⟨rfl,hs⟩:=hcond;exact⟨_,he,by simp[VV.cv,hi,hd,hj,hn,zQ6,zZv,hb,hs]⟩
   ·rename_i vs hb
    exact⟨_,he,by simp[VV.cv,hi,hd,hj,hn,zQ6,zZv,hb]⟩
  ·rename_i m c ds
   split at he<;>(try (simp at he;done))
   rename_i hcond;obtain⟨rfl,hfit⟩:=hcond;obtain⟨f1,f2,f3⟩:=zXl hfit;refine⟨_,he, ?_⟩;simp only[VV.cv,hi,hd,hj];rw[if_pos hn];have:=vWw (m:=m) (ds:=ds) f1 f2 (by omega:n.toNat<m) f3
   simp only[valC,flat_agg];rw[f2,this];simp[zQq]
  ·obtain⟨u,h1,h2⟩:=zZ4 he
   exact⟨_,h1,by simp[VV.cv,hi,hd,hj,hn,VV.zQt,flat_agg,h2]⟩
 ·rename_i e hd
  split at he<;>(try (simp at he;done))
  rename_i j hj;split at he<;>(try (simp at he;done))
  ·rename_i c ds tok full
   split at he<;>(try (simp at he;done))
   rename_i hs;split at he<;>(try (simp at he;done))
   rename_i hn;refine⟨_,he, ?_⟩;simp only[VV.cv,hi,hd,hj];rw[if_pos hn.1,if_pos hs];simp[hn.2,zQq]
  ·rename_i b off len cap ex c
   split at he<;>(try (simp at he;done))
   rename_i hs;split at he<;>(try (simp at he;done))
   rename_i hn;split at he<;>(try (simp at he;done))
   ·rename_i c' ds hb
    split at he
    ·rename_i hce
     have hce:c'.cells=c.cells:=of_decide_eq_true hce;refine⟨_,he, ?_⟩;simp only[VV.cv,hi,hd,hj,hce];rw[if_pos hn.1,if_pos ⟨hs,hn.2,by simp[zQ6,zZv,hb]⟩,←hs,←Qv]
    ·refine⟨_,he, ?_⟩
     simp only[VV.cv,hi,hd,hj];rw[if_pos hn.1,if_pos ⟨hs,hn.2,by simp[zQ6,zZv,hb]⟩,←hs,←Qv]
   ·rename_i vs hb
    refine⟨_,he, ?_⟩;simp only[VV.cv,hi,hd,hj];rw[if_pos hn.1,if_pos ⟨hs,hn.2,by simp[zQ6,zZv,hb]⟩,←hs,←Qv]
  ·rename_i b c d
   split at he<;>(try (simp at he;done))
   rename_i hs;split at he<;>(try (simp at he;done))
   rename_i c' dss hb;split at he<;>(try (simp at he;done))
   rename_i hcc;subst hcc;split at he<;>(try (simp at he;done))
   rename_i hn;split at he<;>(try (simp at he;done))
   rename_i hx;obtain⟨k,off,m,gen,rfl,h1,h2,h3,h4⟩:=yZ6 hx;replace h1:k<dss.length:=h1;replace h2:gen=(dss.getD k []).length:=h2;have hn1:(0:Int)≤n:=hn.1
   have hlt:n<(m:Int):=by have:n.toNat<m:=h4;omega
   refine⟨_,he, ?_⟩;simp only[VV.cv,hi,hd,hj,valC,mixC,zKt hb h1 h2];rw[if_pos hn1,if_pos ⟨hs,hlt⟩,←hs,←Qv];rfl
def vQm(ty:Ty)(t:TypeId)(x ix:VV)(K:VV→Option β):Option β:=
 match ty t,ix with
 | some i, .int _ n=>
  match i.desc,x with
  | .array len e, .agg vs=>match ty e with
   |some j=>if Z.In n len then yKh j vs (n.toNat*j.size) K else none
   |none=>none
  | .array len e, .av m c ds=>match ty e with
   |some j=>if m=len∧fitC j c=true then(if Z.In n len then Z.bnd (Z.get ds (Z.toN n) (dfl c)) fun x=>K (valV c x)else none)else none
   |none=>none
  | .string, .str s=>if Z.Ix n (Z.len s)then Z.bnd (Z.sget s (Z.toN n)) fun x=>K (.int .u8 x)else none
  |_,_=>none
 |_,_=>none
theorem vQl{t:TypeId}{x ix:VV}(he:vQm ty t x ix K=some r):∃v,K v=some r∧xQs ty t x.cv ix.cv=some v.cv:=by
 unfold vQm at he;split at he<;>(try (simp at he;done))
 rename_i i k n hi;split at he<;>(try (simp at he;done))
 ·rename_i len e vs hd
  split at he<;>(try (simp at he;done))
  rename_i j hj;split at he<;>(try (simp at he;done))
  rename_i hn;obtain⟨u,h1,h2⟩:=zZ4 he;exact⟨_,h1,by simp[xQs,VV.cv,hi,hd,hj,hn,VV.zQt,h2]⟩
 ·rename_i len e m c ds hd
  split at he<;>(try (simp at he;done))
  rename_i j hj;split at he<;>(try (simp at he;done))
  rename_i hcond;obtain⟨rfl,hfit⟩:=hcond;split at he<;>(try (simp at he;done))
  rename_i hn;obtain⟨f1,f2,f3⟩:=zXl hfit;refine⟨_,he, ?_⟩;have:=vWw (m:=m) (ds:=ds) f1 f2 (by omega:n.toNat<m) f3
  simp only[xQs,VV.cv,hi,hd,hj,valC];rw[if_pos hn,f2,this,zQq]
 ·rename_i s hd
  split at he<;>(try (simp at he;done))
  rename_i hn;refine⟨_,he, ?_⟩;simp only[xQs,VV.cv,hi,hd];rw[if_pos hn.1];have h2:n.toNat<s.length:=hn.2;simp[Z.sget,Z.toN,List.getD,h2]
def xKn(x:VV)(i:Nat)(K:VV→Option β):Option β:=
 match x with
 | .tuple vs=>match vs[i]? with
  |some v=>K v
  |none=>none
 |_=>none
theorem wWm{x:VV}{i:Nat}(he:xKn x i K=some r):∃v,K v=some r∧yZx x.cv i=some v.cv:=by
 unfold xKn at he;split at he<;>(try (simp at he;done))
 split at he<;>(try (simp at he;done))
 rename_i v hv;exact⟨v,he,by simp[yZx,VV.cv,VV.zQt,hv]⟩
def lenV(ty:Ty)(h:zQa)(t:TypeId)(x:VV)(K:VV→Option β):Option β:=
 match ty t with
 |none=>none
 |some i=>
  match i.desc,x with
  | .string, .str s=>K (.int .i64 (Z.ofN (Z.len s)))
  | .array n _,_=>K (.int .i64 n)
  | .slice _, .sl c ds _ _=>K (.int .i64 (Z.ofN (Z.len ds)))
  | .slice _, .nsl=>K (.int .i64 0)
  | .slice _, .sref b _ len _ _ _=>if zZv h b=true then K (.int .i64 (Z.ofN len))else none
  | .slice _, .mix _ c d=>K (.int .i64 (Z.ofN (Z.xlen d)))
  |_,_=>none
theorem vYl{t:TypeId}{x:VV}(he:lenV ty h t x K=some r):∃v,K v=some r∧lenC ty (hc h) t x.cv=some v.cv:=by
 unfold lenV at he;split at he<;>(try (simp at he;done))
 rename_i i hi;split at he<;>(try (simp at he;done))
 ·rename_i hd;exact⟨_,he,by simp[lenC,hi,hd,VV.cv]⟩
 ·rename_i hd;exact⟨_,he,by simp[lenC,hi,hd,VV.cv]⟩
 ·rename_i hd;exact⟨_,he,by simp[lenC,hi,hd,VV.cv]⟩
 ·rename_i hd;exact⟨_,he,by simp[lenC,hi,hd,VV.cv]⟩
 ·split at he<;>(try (simp at he;done))
  rename_i hd hl;exact⟨_,he,by simp[lenC,hi,hd,VV.cv,zQ6,hl]⟩
 ·rename_i e b c d hd
  refine⟨_,he, ?_⟩;cases d<;>simp[lenC,hi,hd,VV.cv,valC,mixC]
def capV(ty:Ty)(h:zQa)(t:TypeId)(x:VV)(K:VV→Option β):Option β:=
 match ty t with
 |none=>none
 |some i=>
  match i.desc,x with
  | .slice _, .sl c ds _ true=>K (.int .i64 (Z.ofN (Z.len ds)))
  | .slice _, .nsl=>K (.int .i64 0)
  | .slice _, .sref b _ _ cap true _=>if zZv h b=true then K (.int .i64 (Z.ofN cap))else none
  |_,_=>none
theorem uQb{t:TypeId}{x:VV}(he:capV ty h t x K=some r):∃v,K v=some r∧capC ty (hc h) t x.cv=some v.cv:=by
 unfold capV at he;split at he<;>(try (simp at he;done))
 rename_i i hi;split at he<;>(try (simp at he;done))
 ·rename_i hd;exact⟨_,he,by simp[capC,hi,hd,VV.cv]⟩
 ·rename_i hd;exact⟨_,he,by simp[capC,hi,hd,VV.cv]⟩
 ·split at he<;>(try (simp at he;done))
  rename_i hd hl;exact⟨_,he,by simp[capC,hi,hd,VV.cv,zQ6,hl]⟩
end
end Go.Eng
/- Typed operations: slices, conversions, and those that turn memory. -/
namespace Go.Eng
set_option linter.unusedVariables false
section
variable {β:Type} {ty:Ty} {h:zQa} {K:VV→Option β} {r:β}
theorem zYr{j:TI}{c:C}(hf:fitC j c=true):∀(ds:List (El c)),chunks j.agg j.size ds.length (vecC c ds)=ds.map (valC c):=by
 obtain⟨f1,f2,f3⟩:=zXl hf;intro ds;induction ds with
 |nil=>rfl
 | cons d ds ih=>
  have hv:vecC c (d::ds)=(valC c d).flat++vecC c ds:=rfl;simp only[Js,chunks,Qh];rw[hv,f2];have hdrop:((valC c d).flat++vecC c ds).drop c.cells=vecC c ds:=by
   rw[List.drop_append_of_le_length (by rw[zQn];exact Qf _),K1 (by rw[zQn];exact Qf _)];simp
  have htake:((valC c d).flat++vecC c ds).take c.cells=(valC c d).flat:=by
   rw[Ky (by rw[zQn];exact Qf _),Q8 (by rw[zQn];exact Qf _)]
  rw[hdrop,←f2,ih];congr 1;cases hag:j.agg with
  |true=>
   rw[hag]at f1;rw[if_pos rfl,f2,htake];cases c<;>simp[C.agg]at f1<;>rfl
  |false=>
   rw[hag]at f1;simp only[Jf,if_false];have:(valC c d).flat=[valC c d]:=by cases c<;>simp[C.agg]at f1<;>first|rfl|exact zWj _ _ _ _
   rw[this];rfl
def deVs(c:C):Nat→List VV→Option (List (El c))
 |0,_=>some []
 |n+1,vs=>match deV c (vs.take c.cells),deVs c n (vs.drop c.cells)with
  |some d,some ds=>some (d::ds)
  |_,_=>none
theorem xKr{c:C}:∀{n:Nat} {vs:List VV} {ds:List (El c)},deVs c n vs=some ds→vs.length=n*c.cells→vs.map VV.cv=vecC c ds
 |0,vs,ds,h,hl=>by simp[deVs]at h;subst h;simp at hl;subst hl;rfl
 |n+1,vs,ds,h,hl=>by
  simp only[deVs]at h;split at h<;>simp at h;rename_i d ds' h1 h2;subst h;rw[←Q1 c.cells vs,Qr,xQz h1,xKr h2 (by simp[hl,Jz])];rfl
theorem wZr{c:C}:∀{n:Nat} {vs:List VV} {ds:List (El c)},deVs c n vs=some ds→ds.length=n
 |0,vs,ds,h=>by simp[deVs]at h;subst h;rfl
 |n+1,vs,ds,h=>by
  simp only[deVs]at h;split at h<;>simp at h;rename_i d ds' h1 h2;subst h;simp[wZr h2]
def srcV(ty:Ty)(h:zQa)(e:TypeId)(j:TI)(x:VV)(c:C)(k:List (El c)→Option β):Option β:=
 if fitC j c=true then
  match x with
  | .sl c' ds _ _=>if hc:c'=c then k (hc▸ds)else none
  | .nsl=>k []
  | .sref b off len _ _ c'=>match h[b]? with
   |some (.vec c'' ds)=>if c'=c then(if hc:c''=c then(if Z.Le (Z.addN off len) (Z.len ds)then k (Z.seg (hc▸ds:List (El c)) off len)else none)else none)else none
   |some (.cells vs)=>if c'.cells=c.cells then(if off*c.cells+len*c.cells≤vs.length then(match deVs c len ((vs.drop (off*c.cells)).take (len*c.cells))with
    |some ds=>k ds
    |none=>none)else none)else none
   |_=>none
  | .mix b c' d=>match h[b]? with
   |some (.rows c'' dss)=>if hc':c'=c then(if hc:c''=c then(if Z.XOk (hc▸dss:List (List (El c))) (hc'▸d:MixE (El c))then Z.bnd (Z.xget (hc▸dss:List (List (El c))) (hc'▸d:MixE (El c))) fun x=>k x else none)else none)else none
   |_=>none
  | .str s=>match j.desc with
   | .int .u8=>if hc:C.int .u8=c then k (hc▸(Z.bytes s))else none
   |_=>none
  |_=>none
 else none
theorem wY3{j:TI}{b:Nat}{c:C}{dss:List (List (El c))}{d:MixE (El c)}(hb:h[b]?=some (.rows c dss))(hf:fitC j c=true)(hx:d.xok dss=true):srcE (hc h) j (VV.mix b c d).cv=some ((Z.xget dss d).map (valC c)):=by
 obtain⟨f1,f2,f3⟩:=zXl hf;cases d with
 |data l=>simp[VV.cv,valC,mixC,srcE,f2]
 |nil=>simp[VV.cv,valC,mixC,srcE]
 |ref k off n gen=>
  simp only[MixE.xok,Qc,decide_eq_true_eq,beq_iff_eq]at hx;obtain⟨h1,h2,h3⟩:=hx;simp only[VV.cv,valC,mixC,srcE,zKt hb h1 h2];generalize hrow:dss.getD k []=row at *
  have hlen:=zQm c row;have hle:off*c.cells+n*c.cells≤(vecC c row).length:=by rw[hlen,←Qv];exact Ql _ (by omega)
  have hseg:((vecC c row).drop (off*c.cells)).take (n*c.cells)=vecC c ((row.drop off).take n):=by rw[zWg,zW0]
  rw[if_pos ⟨f2.symm,hle,by rw[hseg];exact zW3 _ _⟩,hseg]
  have hl2:((row.drop off).take n).length=n:=by simp;omega
  have:=zYr hf ((row.drop off).take n);rw[hl2]at this;rw[this];show _=some (((((dss.getD k []).drop off).take n)).map (valC c));rw[hrow]
theorem zZl{e:TypeId}{j:TI}{x:VV}{c:C}{k:List (El c)→Option β}(he:srcV ty h e j x c k=some r):∃ds,k ds=some r∧srcE (hc h) j x.cv=some (ds.map (valC c)):=by
 unfold srcV at he;split at he<;>(try (simp at he;done))
 rename_i hf;obtain⟨f1,f2,f3⟩:=zXl hf;split at he<;>(try (simp at he;done))
 ·rename_i c' ds tok full
  split at he<;>(try (simp at he;done))
  rename_i hcc;subst hcc;exact⟨ds,he,by simp[VV.cv,srcE,f2]⟩
 ·exact⟨[],he,by simp[VV.cv,srcE]⟩
 ·rename_i b off len cap ex c'
  split at he<;>(try (simp at he;done))
  ·rename_i c'' ds hb
   split at he<;>(try (simp at he;done))
   rename_i hcc;subst hcc;split at he<;>(try (simp at he;done))
   rename_i hcc;subst hcc;split at he<;>(try (simp at he;done))
   rename_i hl;replace hl:off+len≤ds.length:=hl;refine⟨_,he, ?_⟩;simp only[VV.cv,srcE,zWx hb];have hlen:=zQm c'' ds;have hle:off*c''.cells+len*c''.cells≤(vecC c'' ds).length:=by rw[hlen,←Qv];exact Ql _ hl
   have hseg:((vecC c'' ds).drop (off*c''.cells)).take (len*c''.cells)=vecC c'' ((ds.drop off).take len):=by rw[zWg,zW0]
   rw[if_pos ⟨f2.symm,hle,by rw[hseg];exact zW3 _ _⟩,hseg]
   have hl2:((ds.drop off).take len).length=len:=by simp;omega
   have:=zYr hf ((ds.drop off).take len);rw[hl2]at this;rw[this]
  ·rename_i vs hb
   split at he<;>(try (simp at he;done))
   rename_i hcond;split at he<;>(try (simp at he;done))
   rename_i hl;split at he<;>(try (simp at he;done))
   rename_i ds hds;refine⟨_,he, ?_⟩;have hlen:((vs.drop (off*c.cells)).take (len*c.cells)).length=len*c.cells:=by simp;omega
   have hcv:=xKr hds hlen;simp only[VV.cv,srcE,zWd hb];rw[hcond,←Kb,←J3,hcv];rw[if_pos ⟨f2.symm,by simp;omega,zW3 _ _⟩]
   have hn:ds.length=len:=wZr hds;have:=zYr hf ds;rw[hn]at this;rw[this]
 ·rename_i b c' d
  split at he<;>(try (simp at he;done))
  rename_i c'' dss hb;split at he<;>(try (simp at he;done))
  rename_i hcc;subst hcc;split at he<;>(try (simp at he;done))
  rename_i hcc;subst hcc;split at he<;>(try (simp at he;done))
  rename_i hx;exact⟨_,he,wY3 hb hf hx⟩
 ·rename_i s
  split at he<;>(try (simp at he;done))
  rename_i hd;split at he<;>(try (simp at he;done))
  rename_i hcc;subst hcc;refine⟨_,he, ?_⟩;simp[VV.cv,srcE,hd,Jk,Function.comp_def,valC]
theorem zJ7(c:C)(n:Nat):vecC c (List.replicate n (dfl c))=zWs n (valC c (dfl c)).flat:=by
 simp only[vecC,zWs];induction n with
 |zero=>rfl
 |succ n ih=>simp[Kk,ih]
noncomputable def yKn(ty:Ty)(n:Nat)(t:TypeId)(l c:VV)(K:VV→Option VObj→Option β):Option β:=
 match ty t,l,c with
 | some i, .int _ l, .int _ c=>match i.desc with
  | .slice e=>match ty e,cOf ty 8 e with
   | some j,some ce=>
    if CV.yXn (valC ce (dfl ce)).flat j.zero=true∧fitC j ce=true then
     (if Z.MkOk l c j.bytes then
      K (.sref n 0 (Z.toN l) (Z.toN c) true ce) (some (.vec ce (Z.rep (Z.toN c) (dfl ce))))
     else none)else none
   |_,_=>none
  |_=>none
 |_,_,_=>none
theorem xZ1{n:Nat}{t:TypeId}{l c:VV}{K:VV→Option VObj→Option β}(he:yKn ty n t l c K=some r):∃v o,K v (some o)=some r∧zXx ty n t l.cv c.cv=some (v.cv,o.ho):=by
 unfold yKn at he;split at he<;>(try (simp at he;done))
 rename_i i k1 l k2 c hi;split at he<;>(try (simp at he;done))
 rename_i e hd;split at he<;>(try (simp at he;done))
 rename_i j ce hj hce;split at he<;>(try (simp at he;done))
 rename_i hcond;obtain⟨hz,hf⟩:=hcond;obtain⟨f1,f2,f3⟩:=zXl hf;split at he<;>(try (simp at he;done))
 rename_i hn;refine⟨_,_,he, ?_⟩;simp only[zXx,VV.cv,hi,hd,hj];rw[if_pos (Z.zJ4.1 hn)];simp only[VObj.ho,zJ7,CV.zXz _ _ hz,f2,Nat.zero_mul]
def yQi (ty:Ty)(n:Nat)(t:TypeId)(len:Nat)(parts:List (Nat×VV))(K:VV→Option VObj→Option β):Option β:=
 match ty t with
 | some i=>match i.desc with
  | .slice e=>match ty e,cOf ty 8 e with
   | some j,some c=>
    if len*j.size≤2^24∧fitC j c=true then
     match zV (zWs len j.zero)with
     | some z=>match wWk (fun k=>some (k*j.size,j.size)) z parts with
      | some vs=>if vs.length=len*c.cells then match deVs c len vs with
        |some ds=>K (.sref n 0 len len true c) (some (.vec c ds))
        |none=>K (.sref n 0 len len true c) (some (.cells vs))
       else none
      |none=>none
     |none=>none
    else none
   |_,_=>none
  |_=>none
 |none=>none
theorem yXk{n len:Nat}{t:TypeId}{parts:List (Nat×VV)}{K:VV→Option VObj→Option β}(he:yQi ty n t len parts K=some r):
  ∃v o,K v (some o)=some r∧zXt ty n t len (parts.map fun p=>(p.1,p.2.cv))=some (v.cv,o.ho):=by
 unfold yQi at he;split at he<;>(try (simp at he;done))
 rename_i i hi;split at he<;>(try (simp at he;done))
 rename_i e hd;split at he<;>(try (simp at he;done))
 rename_i j c hj hce;split at he<;>(try (simp at he;done))
 rename_i hcond;obtain⟨hl,hf⟩:=hcond;obtain⟨f1,f2,f3⟩:=zXl hf;split at he<;>(try (simp at he;done))
 rename_i z hz;split at he<;>(try (simp at he;done))
 rename_i vs hfill;split at he<;>(try (simp at he;done))
 rename_i hvl;have h1:=yJ9 hfill;rw[vXb hz]at h1;have key:zXt ty n t len (parts.map fun p=>(p.1,p.2.cv))=some (.sref c.cells n 0 len len true, .cells (vs.map VV.cv)):=by
  unfold zXt;simp only[hi,hd,hj];rw[if_pos hl,h1,f2]
 split at he
 ·rename_i ds hds
  refine⟨_,_,he, ?_⟩;rw[key,xKr hds hvl];simp[VV.cv,VObj.ho]
 ·exact⟨_,_,he,by rw[key];simp[VV.cv,VObj.ho]⟩
def vY9(ty:Ty)(h:zQa)(n:Nat)(s t:TypeId)(x:VV)(K:VV→Option VObj→Option β):Option β:=
 match ty s,ty t with
 | some i,some i'=>
  match i'.desc,x with
  | .int k, .int _ a=>Z.bnd (Z.wrap k a) fun x=>K (.int k x) none
  | .string, .str b=>K (.str b) none
  | .slice e, .str b=>match ty e with
   |some j=>match j.desc with
    | .int .u8=>if marks=true then K (.sref n 0 (Z.len b) (Z.len b) false (.int .u8)) (some (.vec (.int .u8) (Z.bytes b)))else none
    |_=>none
   |none=>none
  | .slice e, .sref b off len cap ex c=>if s=t∧zZv h b=true then(match ty e with
   |some j=>match j.desc with
    | .int .u8=>if marks=true then K (.sref b off len cap ex c) none else none
    |_=>none
   |none=>none)else none
  | .string,_=>match i.desc with
   | .slice e=>match ty e with
    |some j=>match j.desc with
     | .int .u8=>srcV ty h e j x (.int .u8) fun ds=>Z.bnd (Z.str ds) fun x=>K (.str x) none
     |_=>none
    |none=>none
   |_=>none
  |_,_=>none
 |_,_=>none
theorem yJp:∀ds:List Int,bytesOf (ds.map (valC (.int .u8)))=some (ds.map fun n=>UInt8.ofNat n.toNat)
 |[]=>rfl
 |d::ds=>by
  have ih:=yJp ds;show bytesOf (.int .u8 d::ds.map (valC (.int .u8)))=_;simp only[bytesOf,ih];rfl
theorem vZq{n:Nat}{s t:TypeId}{x:VV}{K:VV→Option VObj→Option β}(he:vY9 ty h n s t x K=some r):∃v o,K v o=some r∧yQq ty (hc h) n s t x.cv=some (v.cv,o.map VObj.ho):=by
 obtain⟨y,hy⟩:∃y,y=x:=⟨x,rfl⟩;unfold vY9 at he;split at he<;>(try (simp at he;done))
 rename_i i i' hi hi';split at he<;>(try (simp at he;done))
 ·rename_i hd;exact⟨_,_,he,by simp[yQq,hi,hi',hd,VV.cv]⟩
 ·rename_i hd;exact⟨_,_,he,by simp[yQq,hi,hi',hd,VV.cv]⟩
 ·rename_i e b hd
  split at he<;>(try (simp at he;done))
  rename_i j hj;split at he<;>(try (simp at he;done))
  rename_i hd2;simp[marks]at he
 ·rename_i e b off len cap ex c hd
  split at he<;>(try (simp at he;done))
  rename_i hcond;split at he<;>(try (simp at he;done))
  rename_i j hj;split at he<;>(try (simp at he;done))
  rename_i hd2;simp[marks]at he
 ·rename_i hd hns
  split at he<;>(try (simp at he;done))
  rename_i e hd1;split at he<;>(try (simp at he;done))
  rename_i j hj;split at he<;>(try (simp at he;done))
  rename_i hd2;obtain⟨ds,h1,h2⟩:=zZl he;refine⟨_,_,h1, ?_⟩;subst hy;have hb:=yJp ds;have hne:∀b,y.cv≠.str b:=by
   intro b hb;cases y<;>simp[VV.cv,zWk,valC]at hb
   ·rename_i sss;exact hns sss rfl
   ·rename_i d;cases d<;>simp[mixC]at hb
  simp only[yQq,hi,hi',hd];generalize y.cv=z at h2 hne;cases z<;>first|exact absurd rfl (hne _)|(simp only[hd1,hj,hd2,h2,hb];rfl)
end
end Go.Eng
/- Typed operations: parts of slices, comparisons, stores, append, copy. -/
namespace Go.Eng
set_option linter.unusedVariables false
section
variable {β:Type} {ty:Ty} {h:zQa} {K:VV→Option β} {r:β}
def vKq(x:VV)(y:Nat)(k:Nat→Option β):Option β:=
 match x with
 | .int _ n=>if Z.Bd n y then k (Z.toN n)else none
 |_=>none
def yQ4(x:Option VV)(y d:Nat)(k:Nat→Option β):Option β:=
 match x with
 |some x=>vKq x y k
 |none=>k d
def zJr(lo hi mx:Option VV)(y d:Nat)(k:Nat→Nat→Nat→Option β):Option β:=
 match mx,hi with
 |some _,none=>none
 |_,_=>yQ4 mx y y fun m=>yQ4 hi m d fun h=>yQ4 lo h 0 fun l=>k l h m
theorem yQ3{x:Option VV}{y d:Nat}{k:Nat→Option β}(he:yQ4 x y d k=some r):∃n,k n=some r∧zXa (x.map VV.cv) y d=some n:=by
 unfold yQ4 at he;split at he
 ·rename_i v
  unfold vKq at he;split at he<;>(try (simp at he;done))
  split at he<;>(try (simp at he;done))
  rename_i hn;exact⟨_,he,by simp[zXa,yWq,VV.cv,hn]⟩
 ·exact⟨_,he,rfl⟩
theorem zZc{lo hi mx:Option VV}{y d:Nat}{k:Nat→Nat→Nat→Option β}(he:zJr lo hi mx y d k=some r):∃l hh m,k l hh m=some r∧zXu (lo.map VV.cv) (hi.map VV.cv) (mx.map VV.cv) y d=some (l,hh,m):=by
 unfold zJr at he;split at he<;>(try (simp at he;done))
 rename_i hno;obtain⟨m,h1,e1⟩:=yQ3 he;obtain⟨hh,h2,e2⟩:=yQ3 h1;obtain⟨l,h3,e3⟩:=yQ3 h2;refine⟨l,hh,m,h3, ?_⟩;unfold zXu;cases mx with
 |none=>simp only[Option.map_none]at e1⊢;cases hi<;>simp only[Option.map_none,Jn]at e2⊢<;>simp[e1,e2,e3]
 |some mv=>
  cases hi with
  |none=>exact absurd rfl (hno _ rfl)
  |some hv=>simp only[Jn]at e1 e2⊢;simp[e1,e2,e3]
def wYa(ty:Ty)(h:zQa)(t:TypeId)(x:VV)(lo hi mx:Option VV)(K:VV→Option β):Option β:=
 match ty t with
 |none=>none
 | some i=>
  match i.desc,x with
  | .string, .str s=>if mx.isSome=true then none else
   zJr lo hi none (Z.len s) (Z.len s) fun l hh _=>Z.bnd (Z.slice s l hh) fun x=>K (.str x)
  | .slice e, .sl c ds tok full=>match ty e with
   |none=>none
   | some j=>if c.cells=j.size∧(tok=none∨(lo.isNone&&hi.isNone&&mx.isNone)=true)then
     zJr lo hi mx (Z.len ds) (Z.len ds) fun l hh m=>Z.bnd (Z.slice ds l hh) fun x=>K (.sl c x tok (if mx.isSome=true then false else if hi.isSome=true then full&&Z.eqN hh (Z.len ds)else full))
    else if c.cells=j.size then
     zJr lo hi mx (Z.len ds) (Z.len ds) fun l hh m=>
      if mx.isSome=true then Z.bnd (Z.slice ds l hh) fun x=>K (.sl c x none false)
      else if Z.EqN l 0 then(if Z.EqN hh (Z.len ds)then Z.bnd (Z.slice ds l hh) fun x=>K (.sl c x tok (full&&Z.eqN hh (Z.len ds)))else Z.bnd (Z.slice ds l hh) fun x=>K (.sl c x none (full&&Z.eqN hh (Z.len ds))))
      else Z.bnd (Z.slice ds l hh) fun x=>K (.sl c x none (full&&Z.eqN hh (Z.len ds)))
    else none
  | .slice e, .nsl=>match ty e,cOf ty 8 e with
   |some j,some c=>if c.cells=j.size then zJr lo hi mx 0 0 fun l hh m=>K (.sl c [] none mx.isNone)else none
   |_,_=>none
  | .slice e, .sref b off len cap ex c=>match ty e with
   |none=>none
   | some j=>if c.cells=j.size∧zZv h b=true then
     zJr lo hi mx cap len fun l hh m=>
      if Z.Lt l m then K (.sref b (Z.addN off l) (Z.subN hh l) (Z.subN m l) (mx.isSome||ex) c)else K (.sl c [] none (mx.isSome||ex))
    else none
  | .slice e, .mix b c d=>match ty e,h[b]? with
   | some j,some (.rows c' dss)=>if c.cells=j.size then(if hcc:c'=c then(if Z.XCut (hcc▸dss:List (List (El c))) d then
     zJr lo hi mx (Z.xlen d) (Z.xlen d) fun l hh m=>match lo.isNone&&mx.isSome with
      |true=>if Z.XW (hcc▸dss:List (List (El c))) d then(if Z.EqN m 0 then K (.sl c [] none true)else none)else none
      |false=>Z.bnd (Z.xcut d l hh) fun x=>K (.mix b c x)else none)else none)else none
   |_,_=>none
  | .array n e, .ptr b off=>match ty e,h[b]? with
   | some j,some (.vec c ds)=>if off=0∧c.cells=j.size then(if Z.Le n (Z.len ds)then
     zJr lo hi mx n n fun l hh m=>
      if Z.Lt l m then K (.sref b l (Z.subN hh l) (Z.subN m l) true c)else K (.sl c [] none true)
    else none)else none
   |some j,some (.cells vs)=>match cOf ty 8 e,lo,hi,mx with
    |some c,none,none,none=>if c.cells=1∧j.size=1∧off+n≤vs.length∧0<n then K (.sref b off n n true c)else none
    |_,_,_,_=>none
   |_,_=>none
  | .array n e, .rop (.av m' c ds)=>match ty e with
   | some j=>if m'=n∧fitC j c=true then(if Z.EqN (Z.len ds) n then
     zJr lo hi mx n n fun l hh m=>K (.sl c (Z.slice ds l hh) none (Z.eqN hh m))
    else none)else none
   |none=>none
  | .array n e, .rop (.agg vs)=>match ty e with
   | some j=>match cOf ty 8 e with
    | some (.int k)=>match xYj k vs with
     | some ds=>if vs.length=n∧fitC j (.int k)=true then
       zJr lo hi mx n n fun l hh m=>K (.sl (.int k) (Z.slice ds l hh) none (Z.eqN hh m))
      else none
     |none=>none
    |_=>none
   |none=>none
  |_,_=>none
theorem wWz{y d l hh m:Nat}(h:zXu none none none y d=some (l,hh,m)):l=0∧hh=d∧m=y:=by
 simp[zXu,zXa]at h;omega
theorem vWq{lo mx:Option CV}{y d l hh m:Nat}(h:zXu lo none mx y d=some (l,hh,m)):hh=d:=by
 cases mx with
 |some v=>simp[zXu]at h
 | none=>
  simp only[zXu,zXa]at h;cases lo with
  |none=>simp at h;exact h.2.1.symm
  |some v=>
   simp only at h;split at h<;>simp at h;exact h.2.1.symm
theorem wZi(k:IntKind):∀(ds:List Int),vecC (.int k) ds=ds.map (CV.int k)
 |[]=>rfl
 |d::ds=>by
  show(valC (.int k) d).flat++vecC (.int k) ds=_;rw[wZi k ds];rfl
theorem wJ9{t:TypeId}{x:VV}{lo hi mx:Option VV}(he:wYa ty h t x lo hi mx K=some r):∃v,K v=some r∧zXf ty (hc h) t x.cv (lo.map VV.cv) (hi.map VV.cv) (mx.map VV.cv)=some v.cv:=by
 unfold wYa at he;split at he<;>(try (simp at he;done))
 rename_i i hi';split at he<;>(try (simp at he;done))
 ·rename_i s hd
  split at he<;>(try (simp at he;done))
  rename_i hm;obtain⟨l,hh,m,h1,h2⟩:=zZc he;simp only[Option.map_none]at h2;refine⟨_,h1, ?_⟩;simp[zXf,hi',hd,VV.cv,hm,h2]
 ·rename_i e c ds tok full hd
  split at he<;>(try (simp at he;done))
  rename_i j hj;split at he<;>(try (simp at he;done))
  ·rename_i hcond
   obtain⟨hs,htok⟩:=hcond;obtain⟨l,hh,m,h1,h2⟩:=zZc he;refine⟨_,h1, ?_⟩;simp only[zXf,hi',hd,VV.cv,hj,Qg];rw[if_pos (.inl hs),h2];simp only[←J3,←Kb,hs];congr 1
   congr 1
   ·rcases htok with rfl|hnone
    ·split<;>rfl
    ·simp only[Qc,Option.isNone_iff_eq_none]at hnone
     obtain⟨⟨rfl,rfl⟩,rfl⟩:=hnone;obtain⟨rfl,rfl,rfl⟩:=wWz h2;simp
   ·cases mx with
    |some mv=>simp
    | none=>
     cases hi with
     |some hv=>simp
     |none=>
      have:=vWq h2;subst this;simp
  ·split at he<;>(try (simp at he;done))
   rename_i hs;obtain⟨l,hh,m,h1,h2⟩:=zZc he;have main:∀(t2:Option Nat) (f2:Bool),(if mx.isNone=true∧l=0∧hh=ds.length then tok else none)=t2→(if mx.isSome=true then false else full&&hh==ds.length)=f2→
     zXf ty (hc h) t (VV.sl c ds tok full).cv (lo.map VV.cv) (hi.map VV.cv) (mx.map VV.cv)=some (VV.sl c (Z.slice ds l hh) t2 f2).cv:=by
    intro t2 f2 e1 e2;subst e1;subst e2;simp only[zXf,hi',hd,VV.cv,hj,Qg];rw[if_pos (.inl hs),h2];simp only[←J3,←Kb,hs];congr 1;congr 1
    ·cases mx<;>simp
    ·cases mx<;>simp
   split at h1
   ·rename_i hmx
    refine⟨_,h1,main _ _ ?_ ?_⟩
    ·rw[if_neg];rintro⟨h,_⟩;cases mx<;>simp at h hmx
    ·rw[if_pos hmx]
   ·rename_i hmx
    split at h1
    ·rename_i hl
     split at h1
     ·rename_i hhl
      refine⟨_,h1,main _ _ ?_ ?_⟩
      ·rw[if_pos];exact⟨by cases mx<;>simp at hmx⊢,hl,hhl⟩
      ·rw[if_neg hmx]
     ·rename_i hhl
      refine⟨_,h1,main _ _ ?_ ?_⟩
      ·rw[if_neg];rintro⟨_,_,h⟩;exact hhl h
      ·rw[if_neg hmx]
    ·rename_i hl
     refine⟨_,h1,main _ _ ?_ ?_⟩
     ·rw[if_neg];rintro⟨_,h,_⟩;exact hl h
     ·rw[if_neg hmx]
 ·rename_i e hd
  split at he<;>(try (simp at he;done))
  rename_i j c hj hcc;split at he<;>(try (simp at he;done))
  rename_i hs;obtain⟨l,hh,m,h1,h2⟩:=zZc he;refine⟨_,h1, ?_⟩;have hz:l=0∧hh=0∧m=0:=by
   unfold zXu at h2;split at h2<;>(try (simp at h2;done))
   have hb:∀(x:Option CV) (d n:Nat),zXa x 0 d=some n→d=0→n=0:=by
    intro x d n hx hd0;subst hd0;unfold zXa at hx;split at hx
    ·unfold yWq at hx
     split at hx<;>(try (simp at hx;done))
     split at hx<;>simp at hx;omega
    ·simpa using hx.symm
   cases e1:zXa (mx.map VV.cv) 0 0 with
   |none=>simp[e1]at h2
   | some m'=>
    have hm:=hb _ _ _ e1 rfl;subst hm;simp only[e1]at h2;cases e2:zXa (hi.map VV.cv) 0 0 with
    |none=>simp[e2]at h2
    | some h'=>
     have hh':=hb _ _ _ e2 rfl;subst hh';simp only[e2]at h2;cases e3:zXa (lo.map VV.cv) 0 0 with
     |none=>simp[e3]at h2
     |some l'=>
      have hl':=hb _ _ _ e3 rfl;subst hl';simp[e3]at h2;omega
  obtain⟨rfl,rfl,rfl⟩:=hz;simp only[zXf,hi',hd,VV.cv,hj];rw[if_pos (.inr trivial)];simp only[Kp,h2,List.take_nil,List.drop_nil,Qy,←hs];congr 1;congr 1
  ·split<;>rfl
  ·cases mx<;>simp
 ·rename_i e b off len cap ex c hd
  split at he<;>(try (simp at he;done))
  rename_i j hj;split at he<;>(try (simp at he;done))
  rename_i hcond;obtain⟨l,hh,m,h1,h2⟩:=zZc he;split at h1
  ·rename_i hlm
   refine⟨_,h1, ?_⟩;simp only[zXf,hi',hd,VV.cv,hj];rw[if_pos ⟨hcond.1,by rw[zQ6];exact hcond.2⟩,h2]
   simp only[Option.isSome_map];rw[if_pos hlm,Qv]
  ·rename_i hlm
   refine⟨_,h1, ?_⟩;simp only[zXf,hi',hd,VV.cv,hj];rw[if_pos ⟨hcond.1,by rw[zQ6];exact hcond.2⟩,h2]
   simp only[Option.isSome_map];rw[if_neg hlm,hcond.1];rfl
 ·rename_i e b c d hd
  split at he<;>(try (simp at he;done))
  rename_i j c' dss hj hb;split at he<;>(try (simp at he;done))
  rename_i hs;split at he<;>(try (simp at he;done))
  rename_i hcc;subst hcc;split at he<;>(try (simp at he;done))
  rename_i hx;replace hx:d.xcut dss=true:=hx;obtain⟨l,hh,m,h1,h2⟩:=zZc he;cases hlm:lo.isNone&&mx.isSome with
  | true=>
   rw[hlm]at h1;simp only at h1;split at h1<;>(try (simp at h1;done))
   rename_i hw;split at h1<;>(try (simp at h1;done))
   rename_i hm0;refine⟨_,h1, ?_⟩;replace hm0:m=0:=hm0;subst hm0;rw[Qc]at hlm;cases d with
   |nil=>simp[Z.XW,MixE.xw]at hw
   |data xs=>simp[Z.XW,MixE.xw]at hw
   |ref k off n gen=>
    simp only[MixE.xcut,Qc,decide_eq_true_eq,beq_iff_eq]at hx;obtain⟨q1,q2⟩:=hx;simp only[zXf,hi',hd,VV.cv,valC,mixC,hj,zKt hb q1 q2];rw[if_pos ⟨hs,rfl⟩];have h2':zXu (lo.map VV.cv) (hi.map VV.cv) (mx.map VV.cv) n n=some (l,hh,0):=h2
    rw[h2'];simp only[Option.isNone_map,Option.isSome_map,hlm.1,hlm.2,and_self,if_true,hs,Qy]
  |false=>
  rw[hlm]at h1;simp only at h1;refine⟨_,h1, ?_⟩;cases d with
  |nil=>simp[MixE.xcut]at hx
  |data xs=>
   simp only[zXf,hi',hd,VV.cv,valC,mixC,hj,Qg];rw[if_pos (.inl hs),h2];simp only[←J3,←Kb,hs];congr 1;congr 1
   ·split<;>rfl
   ·split<;>simp
  | ref k off n gen=>
   simp only[MixE.xcut,Qc,decide_eq_true_eq,beq_iff_eq]at hx;obtain⟨q1,q2⟩:=hx;simp only[zXf,hi',hd,VV.cv,valC,mixC,hj,zKt hb q1 q2];rw[if_pos ⟨hs,rfl⟩];have h2':zXu (lo.map VV.cv) (hi.map VV.cv) (mx.map VV.cv) n n=some (l,hh,m):=h2
   rw[h2'];have hno:¬((lo.map VV.cv).isNone=true∧(mx.map VV.cv).isSome=true∧m=0):=by
    rintro⟨g1,g2,_⟩;rw[Option.isNone_map]at g1;rw[Option.isSome_map]at g2;rw[g1,g2]at hlm;cases hlm
   simp only[if_neg hno,Qv]
 ·rename_i n e b off hd
  split at he<;>(try (simp at he;done))
  ·rename_i j c ds hj hb
   split at he<;>(try (simp at he;done))
   rename_i hcond;obtain⟨rfl,hs⟩:=hcond;split at he<;>(try (simp at he;done))
   rename_i hn;obtain⟨l,hh,m,h1,h2⟩:=zZc he;have hle:0+n*j.size≤(vecC c ds).length:=by rw[zQm,←hs,Jx];exact Ql _ hn
   split at h1
   ·rename_i hlm
    refine⟨_,h1, ?_⟩;simp only[zXf,hi',hd,VV.cv,hj,zWx hb];rw[if_pos hle,h2];simp only;rw[if_pos hlm,hs,Jx]
   ·rename_i hlm
    refine⟨_,h1, ?_⟩;simp only[zXf,hi',hd,VV.cv,hj,zWx hb];rw[if_pos hle,h2];simp only;rw[if_neg hlm,hs];rfl
  ·rename_i j vs hj hb
   split at he<;>(try (simp at he;done))
   rename_i c hcc;split at he<;>(try (simp at he;done))
   rename_i hcond;obtain⟨hc1,hj1,hle,hn⟩:=hcond;refine⟨_,he, ?_⟩;simp only[zXf,hi',hd,VV.cv,hj,zWd hb,Option.map_none];rw[if_pos (by rw[hj1,Qg];omega)]
   simp only[zXu,zXa];rw[if_pos hn,hc1,hj1];simp
 ·rename_i n e m' c ds hd
  split at he<;>(try (simp at he;done))
  rename_i j hj;split at he<;>(try (simp at he;done))
  rename_i hcond;obtain⟨rfl,hf⟩:=hcond;obtain⟨f1,f2,f3⟩:=zXl hf;split at he<;>(try (simp at he;done))
  rename_i hl;replace hl:ds.length=m':=hl;obtain⟨l,hh,m,h1,h2⟩:=zZc he;refine⟨_,h1, ?_⟩;have hcells:((List.range m').flatMap fun i=>(valC c (ds.getD i (dfl c))).flat)=vecC c ds:=by
   subst hl;have e:ds=(List.range ds.length).map fun i=>ds.getD i (dfl c):=by
    apply Ji;intro i;by_cases hi:i<ds.length<;>simp[hi,List.getD]
   unfold vecC
   conv=>rhs;rw[e]
   rw[Qx]
  simp only[zXf,hi',hd,VV.cv,hj,valC];rw[hcells,if_pos ⟨by rw[zQm,hl,f2];exact Qf _,zW3 _ _⟩,h2]
  have:=zYr hf ds;rw[hl]at this;rw[f2]at this⊢;simp only[this,←J3,←Kb]
 ·rename_i n e vs hd
  split at he<;>(try (simp at he;done))
  rename_i j hj;split at he<;>(try (simp at he;done))
  rename_i k hcO;split at he<;>(try (simp at he;done))
  rename_i ds hds;split at he<;>(try (simp at he;done))
  rename_i hcond;obtain⟨hn,hf⟩:=hcond;obtain⟨f1,f2,f3⟩:=zXl hf;obtain⟨g1,g2⟩:=xKa hds;have hl:ds.length=n:=by omega
  obtain⟨l,hh,m,h1,h2⟩:=zZc he;refine⟨_,h1, ?_⟩;have hcells:vs.map VV.cv=vecC (.int k) ds:=by rw[g2,wZi]
  simp only[zXf,hi',hd,VV.cv,VV.zQt,hj];rw[hcells,if_pos ⟨by rw[zQm,hl,f2];exact Qf _,zW3 _ _⟩,h2]
  have:=zYr hf ds;rw[hl]at this;rw[f2]at this⊢;simp only[this,←J3,←Kb]
def eqVs:List VV→List VV→Option Bool
 |[],[]=>some true
 | .int k a::xs, .int k' b::ys=>if k=k' then(eqVs xs ys).map fun r=>a==b&&r else none
 | .bool a::xs, .bool b::ys=>(eqVs xs ys).map fun r=>a==b&&r
 |_,_=>none
def zYq(ty:Ty)(eq:TypeId→VV→VV→Option Bool):List Field→List VV→List VV→Option Bool
 |[],_,_=>some true
 | f::fs,xs,ys=>
  if f.name ≠ "_" then
   match ty f.type with
   |none=>none
   | some j=>
    match yKh j xs f.offset some,yKh j ys f.offset some with
    |some a,some b=>match eq f.type a b,zYq ty eq fs xs ys with
     |some p,some q=>some (Z.andB p q)
     |_,_=>none
    |_,_=>none
  else zYq ty eq fs xs ys
def yZz(ty:Ty)(eq:TypeId→VV→VV→Option Bool)(e:TypeId):Nat→Nat→List VV→List VV→Option Bool
 |0,_,_,_=>some true
 | n+1,i,xs,ys=>
  match ty e with
  |none=>none
  | some j=>
   match yKh j xs (i*j.size) some,yKh j ys (i*j.size) some with
   |some a,some b=>match eq e a b,yZz ty eq e n (i+1) xs ys with
    |some p,some q=>some (Z.andB p q)
    |_,_=>none
   |_,_=>none
def eqVV(ty:Ty):Nat→TypeId→VV→VV→Option Bool
 |0,_,_,_=>none
 | d+1,t,x,y=>
  match ty t with
  |none=>none
  | some i=>
   match i.desc,x,y with
   | .bool, .bool a, .bool b=>some (Z.beq a b)
   | .int _, .int k a, .int k' b=>if k=k' then some (Z.ieq a b)else none
   | .string, .str a, .str b=>some (Z.seq a b)
   | .struct fs, .agg xs, .agg ys=>if i.held then none else zYq ty (eqVV ty d) fs.toList xs ys
   | .array len e, .agg xs, .agg ys=>match ty e with
    |none=>none
    |some _=>yZz ty (eqVV ty d) e len 0 xs ys
   |_,_,_=>none
theorem yWl{ty:Ty}{eq:TypeId→VV→VV→Option Bool}{eq':TypeId→CV→CV→Option Bool}(ih:∀t x y b,eq t x y=some b→eq' t x.cv y.cv=some b):∀{fs:List Field} {xs ys:List VV} {b:Bool},zYq ty eq fs xs ys=some b→eqFields ty eq' fs (xs.map VV.cv) (ys.map VV.cv)=some b
 |[],xs,ys,b,h=>by simpa[zYq,eqFields]using h
 | f::fs,xs,ys,b,h=>by
  simp only[zYq]at h;simp only[eqFields];split at h
  ·rename_i hn
   rw[if_pos hn];split at h<;>(try (simp at h;done))
   rename_i j hj;split at h<;>(try (simp at h;done))
   rename_i a b' ha hb;obtain⟨a',e1,h1⟩:=zZ4 ha;obtain⟨b'',e2,h2⟩:=zZ4 hb;simp at e1 e2;subst e1;subst e2;split at h<;>(try (simp at h;done))
   rename_i p q hp hq;simp only[hj,h1,h2,ih _ _ _ _ hp];have hr:=yWl ih hq;cases p with
   |true=>simp[Z.andB]at h;subst h;exact hr
   |false=>simpa[Z.andB]using h
  ·rename_i hn
   rw[if_neg hn];exact yWl ih h
theorem xQx{ty:Ty}{eq:TypeId→VV→VV→Option Bool}{eq':TypeId→CV→CV→Option Bool}(ih:∀t x y b,eq t x y=some b→eq' t x.cv y.cv=some b){e:TypeId}:∀{n i:Nat} {xs ys:List VV} {b:Bool},yZz ty eq e n i xs ys=some b→zJp ty eq' e n i (xs.map VV.cv) (ys.map VV.cv)=some b
 |0,i,xs,ys,b,h=>by simpa[yZz,zJp]using h
 |n+1,i,xs,ys,b,h=>by
  simp only[yZz]at h;simp only[zJp];split at h<;>(try (simp at h;done))
  rename_i j hj;split at h<;>(try (simp at h;done))
  rename_i a b' ha hb;obtain⟨a',e1,h1⟩:=zZ4 ha;obtain⟨b'',e2,h2⟩:=zZ4 hb;simp at e1 e2;subst e1;subst e2;split at h<;>(try (simp at h;done))
  rename_i p q hp hq;simp only[hj,h1,h2,ih _ _ _ _ hp];have hr:=xQx ih hq;cases p with
  |true=>simp[Z.andB]at h;subst h;exact hr
  |false=>simpa[Z.andB]using h
theorem wWo{ty:Ty}:∀(d:Nat) (t:TypeId) (x y:VV) (b:Bool),eqVV ty d t x y=some b→eqV ty d t x.cv y.cv=some b
 |0,_,_,_,_,h=>by simp[eqVV]at h
 | d+1,t,x,y,b,h=>by
  simp only[eqVV]at h;split at h<;>(try (simp at h;done))
  rename_i i hi;simp only[eqV,hi];split at h<;>(try (simp at h;done))
  ·rename_i hd;simpa[hd,VV.cv,Z.beq]using h
  ·rename_i hd
   split at h<;>(try (simp at h;done))
   rename_i hk;simpa[hd,VV.cv,hk,Z.ieq]using h
  ·rename_i hd;simpa[hd,VV.cv,Z.seq]using h
  ·rename_i fs xs ys hd
   split at h<;>(try (simp at h;done))
   rename_i hh;simp only[hd,VV.cv,VV.zQt,hh];exact yWl (wWo d) h
  ·rename_i len e xs ys hd
   split at h<;>(try (simp at h;done))
   rename_i j hj;simp only[hd,VV.cv,VV.zQt,hj];exact xQx (wWo d) h
def intsOf:(c:C)→List (El c)→Option (IntKind×List Int)
 | .int k,ds=>some (k,ds)
 |_,_=>none
theorem xQr{c:C}{ds:List (El c)}{k:IntKind}{ns:List Int}(h:intsOf c ds=some (k,ns))(n:Nat):valC (.arr n c) ds=.agg ((List.range n).map fun i=>.int k (ns.getD i 0)):=by
 unfold intsOf at h;split at h<;>simp at h;obtain⟨rfl,rfl⟩:=h;simp only[valC];congr 1;generalize List.range n=l;induction l with
 |nil=>rfl
 |cons i l ih=>rw[Qn,ih];rfl
def yYd:VV→Option (List VV)
 | .agg vs=>some vs
 | .av n c ds=>match intsOf c ds with
  |some (k,ns)=>some ((List.range n).map fun i=>.int k (Z.get ns i 0))
  |none=>none
 |_=>none
theorem xQ3{v:VV}{vs:List VV}(h:yYd v=some vs):v.cv=.agg (vs.map VV.cv):=by
 unfold yYd at h;split at h
 ·simp at h;subst h;simp[VV.cv,VV.zQt]
 ·split at h<;>simp at h
  rename_i n c ds k ns hi;subst h;simp only[VV.cv,xQr hi,Jk];rfl
 ·simp at h
def vWs:VV→VV→Option (Nat×List Int×List Int)
 | .av n c ds, .av n' c' ds'=>match intsOf c ds,intsOf c' ds' with
  |some (k,ns),some (k',ns')=>if n=n'∧k=k' then some (n,ns,ns')else none
  |_,_=>none
 |_,_=>none
theorem vWr{a b:VV}{n:Nat}{ns ns':List Int}(h:vWs a b=some (n,ns,ns')):∃k,a.cv=.agg ((List.range n).map fun i=>.int k (ns.getD i 0))∧b.cv=.agg ((List.range n).map fun i=>.int k (ns'.getD i 0)):=by
 unfold vWs at h;split at h<;>(try (simp at h;done))
 split at h<;>(try (simp at h;done))
 rename_i k ns0 k' ns1 h1 h2;split at h<;>simp at h;rename_i hh;obtain⟨rfl,rfl⟩:=hh;obtain⟨rfl,rfl,rfl⟩:=h;exact⟨k,xQr h1 _,xQr h2 _⟩
def vQj(ty:Ty)(t:TypeId)(n:Nat):Bool:=
 match ty t with
 | some i=>match i.desc with
  | .array len e=>match ty e with
   |some j=>match j.desc with
    | .int _=>len==n&&j.size==1&&!j.agg&&!i.eqg
    |_=>false
   |none=>false
  |_=>false
 |none=>false
theorem vQi{ty:Ty}{t:TypeId}{n:Nat}(h:vQj ty t n=true)(k:IntKind)(ns ns':List Int):∃i,ty t=some i∧i.eqg=false∧eqV ty 40 t (.agg ((List.range n).map fun i=>.int k (ns.getD i 0))) (.agg ((List.range n).map fun i=>.int k (ns'.getD i 0)))=some (Z.lq n ns ns'):=by
 unfold vQj at h;split at h<;>(try (simp at h;done))
 rename_i i hi;split at h<;>(try (simp at h;done))
 rename_i len e hd;split at h<;>(try (simp at h;done))
 rename_i j hj;split at h<;>(try (simp at h;done))
 rename_i kk hjd;simp only[Qc,beq_iff_eq,Jp]at h;obtain⟨⟨⟨rfl,hs⟩,ha⟩,hg⟩:=h;refine⟨i,hi,hg, ?_⟩;have key:∀(m a:Nat),a+m=len→zJp ty (eqV ty 39) e m a ((List.range len).map fun i=>.int k (ns.getD i 0)) ((List.range len).map fun i=>.int k (ns'.getD i 0))=some ((List.range' a m).all fun i=>ns.getD i 0==ns'.getD i 0):=by
  intro m;induction m with
  |zero=>intro a _;simp[zJp]
  | succ m ih=>
   intro a hl;have p1:∀l:List Int,zZn j ((List.range len).map fun i=>CV.int k (l.getD i 0)) (a*j.size)=some (.int k (l.getD a 0)):=by
    intro l;have hlt:a<len:=by omega
    simp[zZn,ha,hs,hlt,CV.one]
   have q1:∀x y:Int,eqV ty 39 e (.int k x) (.int k y)=some (x==y):=by
    intro x y;unfold eqV;simp only[hj,hjd,if_true]
   simp only[zJp,hj,p1,q1];rw[List.range'_succ,Jq];cases hb:(ns.getD a 0==ns'.getD a 0)with
   |true=>simpa using ih (a+1) (by omega)
   |false=>simp
 have k0:=key len 0 (by omega)
 rw[←List.range_eq_range']at k0;refine Eq.trans ?_ k0;unfold eqV;simp only[hi,hd,hj]
def eqKV(op:BinOp)(b:Bool)(K:VV→Option β):Option β:=
 match op with
 | .eql=>K (.bool b)
 | .neq=>K (.bool (Z.bnot b))
 |_=>none
def binV(ty:Ty)(op:BinOp)(t:TypeId)(a b:VV)(K:VV→Option β):Option β:=
 match a,b with
 | .int k x, .int k' y=>
  match op with
  | .shl=>wXr .shl k x y K
  | .shr=>wXr .shr k x y K
  |op=>if k=k' then intV op k x y K else none
 | .str x, .str y=>strV op x y K
 | .bool x, .bool y=>match ty t with
  |some i=>match i.desc,op with
   | .bool, .eql=>K (.bool (Z.beq x y))
   | .bool, .neq=>K (.bool (Z.bnot (Z.beq x y)))
   |_,_=>none
  |none=>none
 | a,b=>match vWs a b with
  |some (n,ns,ns')=>if vQj ty t n=true then eqKV op (Z.lq n ns ns') K else none
  | none=>match yYd a,yYd b with
   | some xs,some ys=>match ty t with
    |some i=>if i.eqg=true then none else match eqVV ty 40 t (.agg xs) (.agg ys)with
     |some r=>eqKV op r K
     |none=>none
    |none=>none
   |_,_=>none
theorem vQ0{op:BinOp}{b:Bool}(he:eqKV op b K=some r){t:TypeId}{cst yn:Bool}{xs ys:List CV}(hq:eqC ty (hc h) t cst yn (.agg xs) (.agg ys)=some b):∃v,K v=some r∧binC ty (hc h) op t cst yn (.agg xs) (.agg ys)=some v.cv:=by
 unfold eqKV at he;split at he<;>(try (simp at he;done))
 ·exact⟨_,he,by simp only[binC,hq];rfl⟩
 ·exact⟨_,he,by simp only[binC,hq];rfl⟩
theorem uQl{op:BinOp}{t:TypeId}{cst yn:Bool}{a b:VV}(he:binV ty op t a b K=some r):∃v,K v=some r∧binC ty (hc h) op t cst yn a.cv b.cv=some v.cv:=by
 unfold binV at he;split at he<;>(try (simp at he;done))
 ·split at he
  ·obtain⟨v,h1,h2⟩:=xJg he;exact⟨v,h1,by simpa[binC,VV.cv]using h2⟩
  ·obtain⟨v,h1,h2⟩:=xJg he;exact⟨v,h1,by simpa[binC,VV.cv]using h2⟩
  ·rename_i hn1 hn2
   split at he<;>(try (simp at he;done))
   rename_i hk;obtain⟨v,h1,h2⟩:=vYo he;refine⟨v,h1, ?_⟩;simp only[binC,VV.cv];cases op<;>first|exact(hn1 rfl).elim|exact(hn2 rfl).elim|(rw[if_pos hk];exact h2)
 ·obtain⟨v,h1,h2⟩:=vK7 he;exact⟨v,h1,by simpa[binC,VV.cv]using h2⟩
 ·split at he<;>(try (simp at he;done))
  rename_i i hi;split at he<;>(try (simp at he;done))
  ·rename_i hd;exact⟨_,he,by simp[binC,VV.cv,eqC,hi,hd,eqV]⟩
  ·rename_i hd;exact⟨_,he,by simp[binC,VV.cv,eqC,hi,hd,eqV]⟩
 ·split at he
  ·rename_i n ns ns' hb
   split at he<;>(try (simp at he;done))
   rename_i hr;obtain⟨k,e1,e2⟩:=vWr hb;obtain⟨i,hi,hg,hq⟩:=vQi hr k ns ns';rw[e1,e2];exact vQ0 he (by simp only[eqC,hi,hg];exact hq)
  ·split at he<;>(try (simp at he;done))
   rename_i xs ys hx hy;split at he<;>(try (simp at he;done))
   rename_i i hi;split at he<;>(try (simp at he;done))
   rename_i hg;split at he<;>(try (simp at he;done))
   rename_i b hb;rw[xQ3 hx,xQ3 hy];have:=wWo 40 t _ _ _ hb;simp only[VV.cv,VV.zQt]at this;exact vQ0 he (by simp only[eqC,hi,hg];exact this)
def nilV(ty:Ty)(h:zQa)(op:BinOp)(t:TypeId)(a:VV)(K:VV→Option β):Option β:=
 match ty t with
 | some i=>match i.desc,op with
  | .slice _, .eql=>match a with
   | .sl c ds _ _=>if Z.EqN (Z.len ds) 0 then none else K (.bool false)
   | .sref b _ _ _ _ _=>if zZv h b=true then K (.bool false)else none
   | .mix b c d=>match h[b]? with
    |some (.rows c' dss)=>if hcc:c'=c then(if Z.XPt (hcc▸dss:List (List (El c))) d 0 then K (.bool false)else none)else none
    |_=>none
   |_=>none
  | .slice _, .neq=>match a with
   | .sl c ds _ _=>if Z.EqN (Z.len ds) 0 then none else K (.bool true)
   | .sref b _ _ _ _ _=>if zZv h b=true then K (.bool true)else none
   |_=>none
  |_,_=>none
 |none=>none
theorem vYd{op:BinOp}{t:TypeId}{cst:Bool}{a:VV}(he:nilV ty h op t a K=some r):∃v,K v=some r∧binC ty (hc h) op t cst true a.cv (.slice 0 [] none true)=some v.cv:=by
 have key:∀(i:TI) (e:TypeId),ty t=some i→i.desc=.slice e→(∀c ds tok full,a=.sl c ds tok full→¬Z.EqN (Z.len ds) 0→eqC ty (hc h) t cst true a.cv (.slice 0 [] none true)=some false)∧(∀b off len cap ex c,a=.sref b off len cap ex c→zZv h b=true→eqC ty (hc h) t cst true a.cv (.slice 0 [] none true)=some false):=by
  intro i e hi hd;refine⟨fun c ds tok full ha hn=>?_,fun b off len cap ex c ha hl=>?_⟩
  ·subst ha
   cases ds with
   |nil=>exact absurd rfl hn
   |cons d ds=>simp[eqC,hi,VV.cv,yWn,hd]
  ·subst ha
   have hl':live (hc h) b=true:=by rw[zQ6];exact hl
   simp[eqC,hi,VV.cv,yWn,hd,hl']
 have fin:∀(op:BinOp) (b:Bool),(∃c ds tok full,a=.sl c ds tok full)∨(∃b off len cap ex c,a=.sref b off len cap ex c)→eqC ty (hc h) t cst true a.cv (.slice 0 [] none true)=some false→(op=.eql∧b=false∨op=.neq∧b=true)→binC ty (hc h) op t cst true a.cv (.slice 0 [] none true)=some (VV.bool b).cv:=by
  intro op b ha hq hop;rcases ha with⟨c,ds,tok,full,rfl⟩|⟨b,off,len,cap,ex,c,rfl⟩<;>rcases hop with⟨rfl,rfl⟩|⟨rfl,rfl⟩<;>(simp only[VV.cv]at hq⊢;simp only[binC,hq];rfl)
 unfold nilV at he;split at he<;>(try (simp at he;done))
 rename_i i hi;split at he<;>(try (simp at he;done))
 ·rename_i e hd
  split at he<;>(try (simp at he;done))
  ·split at he<;>(try (simp at he;done))
   rename_i hn;exact⟨_,he,fin _ _ (.inl ⟨_,_,_,_,rfl⟩) ((key i e hi hd).1 _ _ _ _ rfl hn) (.inl ⟨rfl,rfl⟩)⟩
  ·split at he<;>(try (simp at he;done))
   rename_i hl;exact⟨_,he,fin _ _ (.inr ⟨_,_,_,_,_,_,rfl⟩) ((key i e hi hd).2 _ _ _ _ _ _ rfl hl) (.inl ⟨rfl,rfl⟩)⟩
  ·rename_i b c d
   split at he<;>(try (simp at he;done))
   rename_i c' dss hb;split at he<;>(try (simp at he;done))
   rename_i hcc;subst hcc;split at he<;>(try (simp at he;done))
   rename_i hx;obtain⟨k,off,n,gen,rfl,h1,h2,h3,h4⟩:=yZ6 hx;replace h1:k<dss.length:=h1;replace h2:gen=(dss.getD k []).length:=h2;refine⟨_,he, ?_⟩;have hq:eqC ty (hc h) t cst true (VV.mix b c' (.ref k off n gen)).cv (.slice 0 [] none true)=some false:=by
    simp[eqC,hi,VV.cv,valC,mixC,yWn,hd,zKt hb h1 h2,h4]
   simp only[VV.cv,valC,mixC]at hq⊢;simp only[binC,hq];rfl
 ·rename_i e hd
  split at he<;>(try (simp at he;done))
  ·split at he<;>(try (simp at he;done))
   rename_i hn;exact⟨_,he,fin _ _ (.inl ⟨_,_,_,_,rfl⟩) ((key i e hi hd).1 _ _ _ _ rfl hn) (.inr ⟨rfl,rfl⟩)⟩
  ·split at he<;>(try (simp at he;done))
   rename_i hl;exact⟨_,he,fin _ _ (.inr ⟨_,_,_,_,_,_,rfl⟩) ((key i e hi hd).2 _ _ _ _ _ _ rfl hl) (.inr ⟨rfl,rfl⟩)⟩
def maxV(gt:Bool):VV→List VV→Option VV
 | .int k a,[]=>some (.int k a)
 | .int k a, .int _ b::rest=>maxV gt (.int k (Z.imax gt a b)) rest
 |_,_=>none
theorem wY5{gt:Bool}:∀{xs:List VV} {a v:VV},maxV gt a xs=some v→maxC gt a.cv (xs.map VV.cv)=some v.cv
 |[],a,v,h=>by
  cases a<;>simp[maxV]at h;subst h;rfl
 |x::xs,a,v,h=>by
  cases a<;>cases x<;>simp only[maxV]at h<;>(try (simp at h;done))
  simp only[Qh,VV.cv,maxC];exact wY5 h
def tkV:VV→VV
 | .sl c ds (some _) _=>.sl c ds none false
 |v=>v
theorem tkV_cv(v:VV):(tkV v).cv=tkC v.cv:=by
 cases v with
 |sl c ds tok full=>cases tok<;>rfl
 |mix b c d=>cases d<;>rfl
 |_=>rfl
theorem xZb(v:VV):v.cv.flat.map tkC=(v.flat.map tkV).map VV.cv:=by
 rw[VV.zJn,Jk,Jk];exact Jo fun x _=>(tkV_cv x).symm
def yQt(ty:Ty)(h:zQa)(t:TypeId)(x v:VV)(K:zQa→Option β):Option β:=
 match ty t with
 | some j=>match x with
  | .ptr b off=>match h[b]? with
   |some (.cells vs)=>
    if v.flat.length=j.size∧off+j.size≤vs.length∧v.flat.all VV.one=true then K (h.set b (.cells (zQh vs off v.flat)))else none
   | some (.vec c ds)=>match v with
    | .av n c' ds'=>if off=0∧c'.cells*n=j.size then(if hcc:c'=c then(if Z.EqN (Z.len ds) n then K (h.set b (.vec c (Z.norm n (hcc▸ds':List (El c)) (dfl c))))else none)else none)else none
    | .agg vs=>if off=0∧vs.length=j.size∧vs.length/c.cells*c.cells=vs.length then(match deVs c (vs.length/c.cells) vs with
     |some ds'=>if Z.EqN (Z.len ds) (Z.len ds')then K (h.set b (.vec c ds'))else none
     |none=>none)else none
    |_=>none
   |_=>none
  | .ptrE b i c=>match h[b]? with
   | some (.vec c' ds)=>if c'=c∧c'.cells=j.size then match deV c' v.flat with
     |some d=>if Z.Lt i (Z.len ds)then Z.bnd (Z.set ds i d) fun x=>K (h.set b (.vec c' x))else none
     |none=>none
    else none
   |_=>none
  | .ptrF b i c o=>match h[b]? with
   | some (.vec c' ds)=>if c'=c∧v.flat.length=j.size∧o+j.size≤c'.cells then(if Z.Lt i (Z.len ds)then Z.bnd (Z.get ds i (dfl c')) fun x=>match deV c' (zQh (zK4 c' x) o v.flat)with
     |some d=>Z.bnd (Z.set ds i d) fun x=>K (h.set b (.vec c' x))
     |none=>none
    else none)else none
   |_=>none
  | .xptr b c d i o=>match h[b]? with
   | some (.rows c' dss)=>if hcc:c'=c then(if Z.XPt (hcc▸dss:List (List (El c))) d i then
     (if o=0∧c.cells=j.size then(match deV c (v.flat.map tkV)with
      |some x=>Z.bnd (Z.xset (hcc▸dss:List (List (El c))) d i x) fun m=>K (h.set b (.rows c m))
      |none=>none)
     else if v.flat.length=j.size∧o+j.size≤c.cells then Z.bnd (Z.xat (hcc▸dss:List (List (El c))) d i (dfl c)) fun y=>(match deV c (zQh (zK4 c y) o (v.flat.map tkV))with
      |some x=>Z.bnd (Z.xset (hcc▸dss:List (List (El c))) d i x) fun m=>K (h.set b (.rows c m))
      |none=>none)
     else none)else none)else none
   |_=>none
  | .rop _=>Z.zZ3 7777784 [] [] []
  |_=>none
 |none=>none
theorem xZa{c:C}{ds:List (El c)}{i:Nat}{d:El c}(hi:i<ds.length):vecC c (ds.set i d)=zQh (vecC c ds) (i*c.cells) (valC c d).flat:=by
 have e1:ds.set i d=ds.take i++d::ds.drop (i+1):=by rw[List.set_eq_take_append_cons_drop,if_pos hi]
 rw[e1,zYz];unfold zQh;rw[zW0,zQn,←Jz,zWg,Jt];rfl
theorem xK6{c:C}{ds:List (El c)}{i o:Nat}{d:El c}{news:List CV}(hi:i<ds.length)(ho:o+news.length≤c.cells)(hd:(valC c d).flat=zQh (valC c (ds.getD i (dfl c))).flat o news):
  vecC c (ds.set i d)=zQh (vecC c ds) (i*c.cells+o) news:=by
 have hl:=zQm c ds;have hle:i*c.cells+c.cells≤(vecC c ds).length:=by rw[hl,←Jz];exact Ql _ hi
 have e1:ds.getD i (dfl c)=ds[i]:=by simp[List.getD,hi]
 have hdr:(vecC c ds).drop (i*c.cells)=(valC c ds[i]).flat++vecC c (ds.drop (i+1)):=by
  rw[zWg,Kl hi];rfl
 have hvl:=zQn c ds[i];rw[xZa hi,hd,e1];apply Ji;intro k;have hs1:(zQh (valC c ds[i]).flat o news).length=c.cells:=by rw[zWt _ _ _ (by rw[hvl];exact ho),hvl]
 have g1:=zWb (vecC c ds) (i*c.cells) (zQh (valC c ds[i]).flat o news) (by rw[hs1];exact hle) k
 have g2:=zWb (vecC c ds) (i*c.cells+o) news (by omega) k
 have g3:=zWb (valC c ds[i]).flat o news (by rw[hvl];exact ho) (k-i*c.cells)
 rw[g1,g2,hs1];have hin:∀q,q<c.cells→(vecC c ds)[i*c.cells+q]?=(valC c ds[i]).flat[q]?:=by
  intro q hq;have:(vecC c ds)[i*c.cells+q]?=((vecC c ds).drop (i*c.cells))[q]?:=by rw[Jg]
  rw[this,hdr,Qb (by rw[hvl];exact hq)]
 by_cases c1:k<i*c.cells
 ·rw[if_pos c1,if_pos (by omega)]
 ·rw[if_neg c1]
  by_cases c2:k<i*c.cells+c.cells
  ·rw[if_pos c2,g3]
   have hk:=hin (k-i*c.cells) (by omega)
   rw[show i*c.cells+(k-i*c.cells)=k by omega]at hk
   by_cases c3:k-i*c.cells<o
   ·rw[if_pos c3,if_pos (show k<i*c.cells+o by omega)];exact hk.symm
   ·by_cases c4:k-i*c.cells<o+news.length
    ·rw[if_neg c3,if_pos c4,if_neg (show¬k<i*c.cells+o by omega),if_pos (show k<i*c.cells+o+news.length by omega)];congr 1;omega
    ·rw[if_neg c3,if_neg c4,if_neg (show¬k<i*c.cells+o by omega),if_neg (show¬k<i*c.cells+o+news.length by omega)];exact hk.symm
  ·rw[if_neg c2,if_neg (by omega),if_neg (by omega)]
theorem wJv{t:TypeId}{x v:VV}{K:zQa→Option β}(he:yQt ty h t x v K=some r):∃h',K h'=some r∧zKq ty (hc h) t x.cv v.cv=some (hc h'):=by
 unfold yQt at he;split at he<;>(try (simp at he;done))
 rename_i j hj;split at he<;>(try (simp at he;done))
 ·rename_i b off
  split at he<;>(try (simp at he;done))
  ·rename_i vs hb
   split at he<;>(try (simp at he;done))
   rename_i hcond;refine⟨_,he, ?_⟩;simp only[zKq,hj,VV.cv,zWd hb,VV.zJn,Qg,xX6];rw[if_pos hcond,zQu];simp[VObj.ho,yWt]
  ·rename_i c ds hb
   split at he<;>(try (simp at he;done))
   ·rename_i n c' ds'
    split at he<;>(try (simp at he;done))
    rename_i hcond;obtain⟨rfl,hs⟩:=hcond;split at he<;>(try (simp at he;done))
    rename_i hcc;subst hcc;split at he<;>(try (simp at he;done))
    rename_i hl;replace hl:ds.length=n:=hl;refine⟨_,he, ?_⟩;have hfl:(VV.av n c' ds').cv.flat=vecC c' ((List.range n).map fun i=>ds'.getD i (dfl c')):=by simp[VV.cv,valC,flat_agg,vecC,Qx]
    have hlen:(vecC c' ((List.range n).map fun i=>ds'.getD i (dfl c'))).length=j.size:=by rw[zQm];simp;rw[←hs,Nat.mul_comm]
    simp only[zKq,hj];show(match(hc h)[b]? with
     |some (.cells cs)=>_
     |_=>none)=_
    rw[zWx hb];simp only[hfl];rw[if_pos ⟨hlen,by rw[zQm,hl,←hs,Nat.mul_comm];omega,zW3 _ _⟩,zQu]
    congr 2;simp only[VObj.ho,zQh,List.take_zero,Kz,Jx];rw[hlen,K1 (by rw[zQm,hl,←hs,Nat.mul_comm];exact Qf _),Jr]
   ·rename_i vs
    split at he<;>(try (simp at he;done))
    rename_i hcond;obtain⟨rfl,hs,hm⟩:=hcond;split at he<;>(try (simp at he;done))
    rename_i ds' hds;split at he<;>(try (simp at he;done))
    rename_i hl;replace hl:ds.length=ds'.length:=hl;refine⟨_,he, ?_⟩;have hcv:=xKr hds hm.symm;have hfl:(VV.agg vs).cv.flat=vecC c ds':=by simp only[VV.cv,VV.zQt,flat_agg];exact hcv
    have hlen:(vecC c ds').length=j.size:=by rw[←hcv,Qg,hs]
    have hlen2:(vecC c ds).length=j.size:=by rw[←hlen,zQm,zQm,hl]
    simp only[zKq,hj];show(match(hc h)[b]? with
     |some (.cells cs)=>_
     |_=>none)=_
    rw[zWx hb];simp only[hfl];rw[if_pos ⟨hlen,by rw[hlen2];omega,zW3 _ _⟩,zQu]
    congr 2;simp only[VObj.ho,zQh,List.take_zero,Kz,Jx];rw[hlen,K1 (by rw[hlen2];exact Qf _),Jr]
 ·rename_i b i c
  split at he<;>(try (simp at he;done))
  rename_i c' ds hb;split at he<;>(try (simp at he;done))
  rename_i hcond;obtain⟨rfl,hs⟩:=hcond;split at he<;>(try (simp at he;done))
  rename_i d hd;split at he<;>(try (simp at he;done))
  rename_i hi;refine⟨_,he, ?_⟩;have hfl:v.cv.flat=(valC c' d).flat:=by rw[VV.zJn,xQz hd]
  simp only[zKq,hj,VV.cv,zWx hb,hfl];rw[if_pos ⟨by rw[zQn];exact hs,by rw[zQm,←hs,←Jz];exact Ql _ hi,zZw _ _⟩,zQu]
  simp only[VObj.ho,xZa hi]
 ·rename_i b i c o
  split at he<;>(try (simp at he;done))
  rename_i c' ds hb;split at he<;>(try (simp at he;done))
  rename_i hcond;obtain⟨rfl,hs,ho⟩:=hcond;split at he<;>(try (simp at he;done))
  rename_i hi;replace hi:i<ds.length:=hi;replace he:(match deV c' (zQh (zK4 c' (ds.getD i (dfl c'))) o v.flat)with
     |some d=>Z.bnd (Z.set ds i d) fun x=>K (h.set b (.vec c' x))
     |none=>none)=some r:=he
  split at he<;>(try (simp at he;done))
  rename_i d hd;refine⟨_,he, ?_⟩;have hcv:=xQz hd;rw[yWt,zZ8,←VV.zJn]at hcv;have hlen:v.cv.flat.length=j.size:=by rw[VV.zJn,Qg];exact hs
  have hone:v.cv.flat.all CV.one=true:=by
   have h1:=zZw c' d;rw[←hcv]at h1;rw[Qo]at h1⊢;intro y hy;exact h1 y (by unfold zQh;simp[hy])
  simp only[zKq,hj,VV.cv,zWx hb];have hle:i*c'.cells+o+j.size≤(vecC c' ds).length:=by
   have h1:i*c'.cells+c'.cells≤ds.length*c'.cells:=by rw[←Jz];exact Ql _ hi
   rw[zQm];omega
  rw[if_pos ⟨hlen,hle,hone⟩,zQu];simp only[VObj.ho];rw[xK6 hi (by rw[hlen];exact ho) hcv.symm]
 ·rename_i b c d i o
  split at he<;>(try (simp at he;done))
  rename_i c' dss hb;split at he<;>(try (simp at he;done))
  rename_i hcc;subst hcc;split at he<;>(try (simp at he;done))
  rename_i hx;obtain⟨k,off,n,gen,rfl,q1,q2,q3,q4⟩:=yZ6 hx;replace q1:k<dss.length:=q1;replace q2:gen=(dss.getD k []).length:=q2;have hi:off+i<(dss.getD k []).length:=by omega
  have hset:∀(cs:List CV) (row:List (El c')),vecC c' row=cs→hc (h.set b (.rows c' (dss.set k row)))=(hc h).set b (.rows ((dss.map (vecC c')).set k cs)):=by
   intro cs row e;rw[zQu];simp only[VObj.ho,Q3,e]
  split at he
  ·rename_i hcond
   obtain⟨rfl,hs⟩:=hcond;split at he<;>(try (simp at he;done))
   rename_i x hd;refine⟨_,he, ?_⟩;have hfl:v.cv.flat.map tkC=(valC c' x).flat:=by rw[xZb,xQz hd]
   simp only[zKq,hj,VV.cv,zKt hb q1 q2,hfl,yWe hb,Kg];rw[if_pos ⟨by rw[zQn];exact hs,by rw[zQm,←hs,←Jz];exact Ql _ hi,zZw _ _⟩]
   congr 1;exact(hset _ _ (xZa hi)).symm
  ·split at he<;>(try (simp at he;done))
   rename_i hcond;obtain⟨hs,ho⟩:=hcond;replace he:(match deV c' (zQh (zK4 c' ((dss.getD k []).getD (off+i) (dfl c'))) o (v.flat.map tkV))with
      |some x=>Z.bnd (Z.xset dss (MixE.ref k off n gen) i x) fun m=>K (h.set b (.rows c' m))
      |none=>none)=some r:=he
   split at he<;>(try (simp at he;done))
   rename_i x hd;refine⟨_,he, ?_⟩;have hcv:=xQz hd;rw[yWt,zZ8,←xZb]at hcv;have hlen:(v.cv.flat.map tkC).length=j.size:=by rw[xZb,Qg,Qg];exact hs
   have hone:(v.cv.flat.map tkC).all CV.one=true:=by
    have h1:=zZw c' x;rw[←hcv]at h1;rw[Qo]at h1⊢;intro y hy;exact h1 y (by unfold zQh;simp[hy])
   simp only[zKq,hj,VV.cv,zKt hb q1 q2,yWe hb];have hle:(off+i)*c'.cells+o+j.size≤(vecC c' (dss.getD k [])).length:=by
    have h1:(off+i)*c'.cells+c'.cells≤(dss.getD k []).length*c'.cells:=by rw[←Jz];exact Ql _ hi
    rw[zQm];omega
   rw[if_pos ⟨hlen,hle,hone⟩];congr 1;exact(hset _ _ (xK6 hi (by rw[hlen];exact ho) hcv.symm)).symm
theorem zJv{e:TypeId}{j:TI}{x:VV}{c:C}{k:List (El c)→Option β}(he:srcV ty h e j x c k=some r):fitC j c=true:=by
 unfold srcV at he;split at he
 ·assumption
 ·cases he
theorem wJ4{e:TypeId}{j:TI}{c c':C}{ds:List (El c')}{tok:Option Nat}{full:Bool}{k:List (El c)→Option β}(he:srcV ty h e j (.sl c' ds tok full) c k=some r):c'=c:=by
 unfold srcV at he;split at he
 ·simp only at he
  split at he
  ·assumption
  ·cases he
 ·cases he
def yX6 (ty:Ty)(h:zQa)(t u:TypeId)(s x:VV)(K:VV→zQa→Option β):Option β:=
 match ty t,ty u with
 | some i,some iu=>
  match i.desc with
  | .slice e=>match ty e,cOf ty 8 e with
   | some j,some c=>
    if yWc iu.desc=false∧¬2^30<j.bytes then
     srcV ty h e j x c fun ys=>srcV ty h e j s c fun xs=>
      if Z.Big (Z.len xs) (Z.len ys) j.bytes then none else
      match s with
      | .sl c' _ tok full=>match full with
       |true=>if Z.EqN (Z.len xs) 0 then Z.bnd (Z.app xs ys) fun zs=>K (.sl c zs (some h.length) false) (h++[.tail (Z.len zs)])
        else if Z.EqN (Z.len ys) 0 then K s h else Z.bnd (Z.app xs ys) fun zs=>K (.sl c zs (some h.length) false) (h++[.tail (Z.len zs)])
       |false=>match tok with
       |some k=>match h[k]? with
        |some (.tail v)=>if Z.EqN v (Z.len xs)then Z.bnd (Z.app xs ys) fun zs=>K (.sl c zs (some k) false) (h.set k (.tail (Z.len zs)))else none
        |_=>none
       |none=>Z.zZ3 7777776 [] [] []
      | .nsl=>Z.bnd (Z.app xs ys) fun zs=>K (.sl c zs (some h.length) false) (h++[.tail (Z.len zs)])
      | .sref b _ _ _ _ _=>Z.bnd (Z.app xs ys) fun zs=>K (.sl c zs (some h.length) false) (h.set b .dead++[.tail (Z.len zs)])
      |_=>none
    else none
   |_,_=>none
  |_=>none
 |_,_=>none
theorem zX2{c:C}{ds:List (El c)}:ds.map (valC c)=[]↔ds=[]:=by simp
theorem wK2{t u:TypeId}{s x:VV}{K:VV→zQa→Option β}(he:yX6 ty h t u s x K=some r):∃v h',K v h'=some r∧zXd true ty (hc h) t u s.cv x.cv=some (v.cv,hc h'):=by
 unfold yX6 at he;split at he<;>(try (simp at he;done))
 rename_i i iu hi hiu;split at he<;>(try (simp at he;done))
 rename_i e hd;split at he<;>(try (simp at he;done))
 rename_i j c hj hcc;split at he<;>(try (simp at he;done))
 rename_i hcond;obtain⟨ys,h1,e1⟩:=zZl he;obtain⟨xs,h2,e2⟩:=zZl h1;split at h2
 ·cases h2
 rename_i hbig;have hones:((xs.map (valC c)++ys.map (valC c)).flatMap CV.flat).all CV.one=true:=by
  rw[←Qr,Qx];exact zW3 c (xs++ys)
 have hfit:fitC j c=true:=zJv he;obtain⟨f1,f2,f3⟩:=zXl hfit;have hn1:¬2^30<j.bytes:=hcond.2;have happ:∀y,appC (hc h) j iu.desc y=srcE (hc h) j y:=fun y=>by unfold appC;rw[hcond.1];rfl
 have hbig':¬(2^44<((xs.map (valC c)).length+(ys.map (valC c)).length)*(j.bytes+1)∨(!((xs.map (valC c)++ys.map (valC c)).flatMap CV.flat).all CV.one)=true):=by
  rintro(h|h)
  ·exact hbig (by simpa only[Qg]using h)
  ·rw[hones]at h;exact absurd h (by decide)
 unfold zXd;simp only[hi,hiu,hd,hj];rw[if_neg hn1];simp only[happ,e1,e2];split at h2<;>(try (simp at h2;done))
 ·rename_i c' ds' tok full
  split at h2
  ·have hsr:zKc (VV.sl c' ds' tok true).cv=false:=rfl
   have res:some (CV.slice j.size (xs.map (valC c)++ys.map (valC c)) (some (hc h).length) false,hc h++[HObj.tail ((xs.map (valC c)).length+(ys.map (valC c)).length)])=
     some ((VV.sl c (xs++ys) (some h.length) false).cv,hc (h++[.tail (xs++ys).length])):=by
    simp[VV.cv,f2,hc,VObj.ho]
   split at h2
   ·rename_i hx0
    refine⟨_,_,h2, ?_⟩;have hx:xs.map (valC c)=[]:=zX2.2 (Qq.1 hx0);by_cases hy:ys.map (valC c)=[]
    ·rw[if_pos ⟨hy,by rw[hsr];rfl⟩]
     simp only[VV.cv,if_true];rw[if_pos hx];exact res
    ·rw[if_neg (fun h=>hy h.1),if_neg hbig']
     simp only[VV.cv,if_true];exact res
   ·rename_i hx0
    have hx:¬xs.map (valC c)=[]:=fun e=>hx0 (Qq.2 (zX2.1 e))
    split at h2
    ·rename_i hy0
     refine⟨_,_,h2, ?_⟩;have hy:ys.map (valC c)=[]:=zX2.2 (Qq.1 hy0);rw[if_pos ⟨hy,by rw[hsr];rfl⟩]
     simp only[VV.cv,if_true];rw[if_neg hx]
    ·rename_i hy0
     refine⟨_,_,h2, ?_⟩;have hy:¬ys.map (valC c)=[]:=fun e=>hy0 (Qq.2 (zX2.1 e))
     rw[if_neg (fun h=>hy h.1),if_neg hbig']
     simp only[VV.cv,if_true];exact res
  ·split at h2<;>(try (simp at h2;done))
   rename_i k;split at h2<;>(try (simp at h2;done))
   rename_i v0 hk;split at h2<;>(try (simp at h2;done))
   rename_i hv0;refine⟨_,_,h2, ?_⟩;have hk':(hc h)[k]?=some (.tail v0):=by rw[zQy,hk];rfl
   have hcs:c'.cells=j.size:=by
    have:srcE (hc h) j (VV.sl c' ds' (some k) false).cv=some (xs.map (valC c)):=e2;have:=wJ4 h1;subst this;exact f2.symm
   have res:some (CV.slice j.size (xs.map (valC c)++ys.map (valC c)) (some k) false,(hc h).set k (HObj.tail ((xs.map (valC c)).length+(ys.map (valC c)).length)))=
     some ((VV.sl c (xs++ys) (some k) false).cv,hc (h.set k (.tail (xs++ys).length))):=by
    simp[VV.cv,zQu,f2,VObj.ho]
   have hsr:zKc (VV.sl c' ds' (some k) false).cv=false:=rfl;by_cases hy:ys.map (valC c)=[]
   ·rw[if_pos ⟨hy,by rw[hsr];rfl⟩]
    simp only[VV.cv,if_true,Jf,if_false,hk'];rw[if_pos ⟨by simpa using hv0,hcs⟩]
    exact res
   ·rw[if_neg (fun h=>hy h.1),if_neg hbig']
    simp only[VV.cv,Jf,if_false,hk'];rw[if_pos ⟨by simpa using hv0,hcs⟩]
    exact res
 ·have hsr:zKc VV.nsl.cv=false:=rfl
  refine⟨_,_,h2, ?_⟩;have res:some (CV.slice j.size (xs.map (valC c)++ys.map (valC c)) (some (hc h).length) false,hc h++[HObj.tail ((xs.map (valC c)).length+(ys.map (valC c)).length)])=
    some ((VV.sl c (xs++ys) (some h.length) false).cv,hc (h++[.tail (xs++ys).length])):=by
   simp[VV.cv,f2,hc,VObj.ho]
  have hx:xs.map (valC c)=[]:=by
   have e3:=e2;simp only[srcE,VV.cv]at e3;split at e3<;>simp at e3;simp[e3]
  by_cases hy:ys.map (valC c)=[]
  ·rw[if_pos ⟨hy,by rw[hsr];rfl⟩]
   simp only[VV.cv,if_true];rw[if_pos hx];exact res
  ·rw[if_neg (fun h=>hy h.1),if_neg hbig']
   simp only[VV.cv,if_true];exact res
 ·rename_i b off len cap ex c'
  refine⟨_,_,h2, ?_⟩;have hsr:zKc (VV.sref b off len cap ex c').cv=true:=rfl;rw[if_neg (fun h=>by have:=h.2;rw[hsr]at this;simp at this),if_neg hbig']
  simp only[VV.cv,if_true];simp[f2,hc,VObj.ho,Q3]
theorem wK9{α:Type}{m:List (List α)}{d:MixE α}(h:d.xgr m=true):∃k n,d=.ref k 0 n n∧k<m.length∧n=(m.getD k []).length:=by
 cases d with
 |ref k off n gen=>
  simp only[MixE.xgr,Qc,decide_eq_true_eq,beq_iff_eq]at h;obtain⟨h1,h2,h3,h4⟩:=h;subst h3;subst h4;exact⟨k,n,rfl,h1,h2⟩
 |_=>simp[MixE.xgr]at h
def xWa (ty:Ty)(h:zQa)(t u:TypeId)(b:Nat)(c:C)(d:MixE (El c))(x:VV)(K:VV→zQa→Option β):Option β:=
 match ty t,ty u with
 | some i,some iu=>
  match i.desc with
  | .slice e=>match ty e with
   | some j=>
    if yWc iu.desc=false∧¬2^30<j.bytes∧0<c.cells then
     srcV ty h e j x c fun ys=>match h[b]? with
      | some (.rows c' dss)=>if hcc:c'=c then(if Z.XGr (hcc▸dss:List (List (El c))) d then
        (if Z.EqN (Z.len ys) 0 then K (.mix b c d) h else if Z.Big (Z.xlen d) (Z.len ys) j.bytes then none else
         Z.bnd (Z.xapp (hcc▸dss:List (List (El c))) d ys) fun m=>Z.bnd (Z.xY5 d (Z.len ys)) fun d'=>K (.mix b c d') (h.set b (.rows c m)))else none)else none
      |_=>none
    else none
   |none=>none
  |_=>none
 |_,_=>none
theorem yK1{lit:Bool}{t u:TypeId}{b:Nat}{c:C}{d:MixE (El c)}{x:VV}{K:VV→zQa→Option β}(he:xWa ty h t u b c d x K=some r):
  ∃v h',K v h'=some r∧zXd lit ty (hc h) t u (VV.mix b c d).cv x.cv=some (v.cv,hc h')∧(h'=h∨∃o,h'=h.set b o):=by
 unfold xWa at he;split at he<;>(try (simp at he;done))
 rename_i i iu hi hiu;split at he<;>(try (simp at he;done))
 rename_i e hd;split at he<;>(try (simp at he;done))
 rename_i j hj;split at he<;>(try (simp at he;done))
 rename_i hcond;have hfit:fitC j c=true:=zJv he;obtain⟨ys,h1,e1⟩:=zZl he;split at h1<;>(try (simp at h1;done))
 rename_i c' dss hb;split at h1<;>(try (simp at h1;done))
 rename_i hcc;subst hcc;split at h1<;>(try (simp at h1;done))
 rename_i hx;obtain⟨k,n,rfl,q1,q2⟩:=wK9 hx;replace q1:k<dss.length:=q1;replace q2:n=(dss.getD k []).length:=q2;obtain⟨f1,f2,f3⟩:=zXl hfit;have happ:∀y,appC (hc h) j iu.desc y=srcE (hc h) j y:=fun y=>by unfold appC;rw[hcond.1];rfl
 have hxok:(MixE.ref k 0 n n:MixE (El c')).xok dss=true:=by
  simp only[MixE.xok,Qc,decide_eq_true_eq,beq_iff_eq];exact⟨q1,q2,by omega⟩
 have e2:=wY3 (j:=j) hb hfit hxok;have hget:Z.xget dss (MixE.ref k 0 n n)=dss.getD k []:=by
  show((dss.getD k []).drop 0).take n=_;rw[J1,q2,Q4]
 rw[hget]at e2;have hones:(((dss.getD k []).map (valC c')++ys.map (valC c')).flatMap CV.flat).all CV.one=true:=by
  rw[←Qr,Qx];exact zW3 c' (dss.getD k []++ys)
 unfold zXd;simp only[hi,hiu,hd,hj];rw[if_neg hcond.2.1];simp only[happ,e1,e2];have hsr:zKc (VV.mix b c' (MixE.ref k 0 n n)).cv=false:=rfl;split at h1
 ·rename_i hy0
  refine⟨_,_,h1, ?_, .inl rfl⟩;have hy:ys.map (valC c')=[]:=zX2.2 (Qq.1 hy0);rw[if_pos ⟨hy,by rw[hsr];simp⟩]
  rfl
 ·rename_i hy0
  split at h1
  ·cases h1
  rename_i hbig;have hy:¬ys.map (valC c')=[]:=fun e=>hy0 (Qq.2 (zX2.1 e))
  refine⟨_,_,h1, ?_, .inr ⟨_,rfl⟩⟩;have hlen:(dss.getD k []).length=n:=q2.symm;have hbig':¬(2^44<(((dss.getD k []).map (valC c')).length+(ys.map (valC c')).length)*(j.bytes+1)∨(!(((dss.getD k []).map (valC c')++ys.map (valC c')).flatMap CV.flat).all CV.one)=true):=by
   rintro(h|h)
   ·refine hbig ?_
    rw[Qg,Qg,hlen]at h;exact h
   ·rw[hones]at h;exact absurd h (by decide)
  rw[if_neg (fun h=>hy h.1),if_neg hbig']
  simp only[VV.cv,valC,mixC,zKt hb q1 q2,yWe hb];rw[if_pos ⟨by omega,f2.symm,by rw[f2];exact hcond.2.2,by rw[f2]⟩]
  simp only[Qg,hlen,zQu,VObj.ho,Qd,Q9];refine⟨by simp[f2,Qv], ?_⟩
  congr 2;show _=(dss.set k (dss.getD k []++ys)).map (vecC c');rw[Q3,zYz,Qx];rfl
end
end Go.Eng
/- The evaluator over typed symbolic values: definitions. -/
namespace Go.Eng
set_option linter.unusedVariables false
section
variable {β:Type}
def vWk(ty:Ty)(h:zQa)(ρ:Operand→VV)(cl:Call)(K:VV→Option β):Option β:=
 match cl.callee with
 | .builtin .len=>match cl.args.toList,cl.argTypes.toList with
  |[x],[t]=>lenV ty h t (ρ x) K
  |_,_=>none
 | .builtin .cap=>match cl.args.toList,cl.argTypes.toList with
  |[x],[t]=>capV ty h t (ρ x) K
  |_,_=>none
 | .builtin .max=>match cl.args.toList with
  |x::xs=>match maxV true (ρ x) (xs.map ρ)with
   |some v=>K v
   |none=>none
  |[]=>none
 | .builtin .min=>match cl.args.toList with
  |x::xs=>match maxV false (ρ x) (xs.map ρ)with
   |some v=>K v
   |none=>none
  |[]=>none
 |_=>none
def vKg:Operand→Bool
 | .const (.slice none 0 0)=>true
 |_=>false
def wY7(ty:Ty)(t:TypeId):Option (IntKind×IntKind):=
 match ty t with
 | some i=>match i.desc with
  | .map kt e=>match ty kt,ty e with
   |some jk,some j=>match jk.desc,zeroV j with
    | .int k1,some (.int k2 n)=>if n=0 then some (k1,k2)else none
    |_,_=>none
   |_,_=>none
  |_=>none
 |none=>none
def xZ3(ty:Ty)(n:Nat)(t:TypeId)(r:Option VV)(K:VV→Option VObj→Option β):Option β:=
 match wY7 ty t with
 | some (k1,k2)=>match r with
  |none=>K (.map n) (some (.map k1 k2 []))
  |some v=>match v with
   | .int _ _=>K (.map n) (some (.map k1 k2 []))
   |_=>none
 |none=>none
def wQ5(ty:Ty)(h:zQa)(t:TypeId)(m k:VV)(ok:Bool)(K:VV→Option β):Option β:=
 match wY7 ty t with
 | some (k1,k2)=>match m,k with
  | .map b, .int k0 n=>match h[b]? with
   | some (.map j1 j2 es)=>if k0=k1∧j1=k1∧j2=k2 then
     (match ok with
     |true=>Z.bnd (Z.mget es n) fun v=>Z.bnd (Z.mhas es n) fun w=>K (.tuple [.int k2 v, .bool w])
     |false=>Z.bnd (Z.mget es n) fun v=>K (.int k2 v))else none
   |_=>none
  |_,_=>none
 |none=>none
def yKl(ty:Ty)(h:zQa)(t:TypeId)(m k v:VV)(K:zQa→Option β):Option β:=
 match wY7 ty t with
 | some (k1,k2)=>match m,k,v with
  | .map b, .int k0 n, .int k3 x=>match h[b]? with
   |some (.map j1 j2 es)=>if k0=k1∧j1=k1∧j2=k2∧k3=k2 then Z.bnd (Z.mput es n x) fun zs=>K (h.set b (.map k1 k2 zs))else none
   |_=>none
  |_,_,_=>none
 |none=>none
def sapV(ty:Ty)(t:TypeId)(x:VV)(K:VV→Option β):Option β:=
 match ty t with
 | some i=>match i.desc with
  | .array n e=>match ty e with
   |some j=>match x with
    | .sl c ds _ _=>if c.cells=j.size∧0<n then(if Z.Le n (Z.len ds)then K (.rop (.av n c ds))else none)else none
    |_=>none
   |none=>none
  |_=>none
 |none=>none
def wWa:VV→Bool
 | .ifc _ _=>true
 | .niliface=>true
 |_=>false
def ifcV(ty:Ty)(op:BinOp)(t:TypeId)(cst:Bool)(x y:VV)(K:VV→Option β):Option β:=
 match wWa x&&wWa y with
 |true=>(match binC ty [] op t cst false x.cv y.cv with
  |some (.bool b)=>K (.bool b)
  |_=>none)
 |false=>none
noncomputable def opVQ(ty:Ty)(h:zQa)(ρ:Operand→VV)(o:Op)(K:VV→Option VObj→Option β):Option β:=
 match o with
 | .move x| .assign x=>K (ρ x) none
 | .pick a b d=>vJ3 (ρ a) (ρ b) (ρ d) fun v=>K v none
 | .alloc t=>vW3 ty h.length t K
 | .box _ x=>boxV h.length (ρ x) K
 | .build t parts=>vWo ty t (parts.toList.map fun p=>(p.1,ρ p.2)) fun v=>K v none
 | .buildSlice t len parts=>yQi ty h.length t len (parts.toList.map fun p=>(p.1,ρ p.2)) K
 | .load t a=>vX5 ty h t (ρ a) fun v=>K v none
 | .nilCheck x=>xQk h (ρ x) fun v=>K v none
 | .binOp op t x y _=>match wWa (ρ x)with
  |true=>ifcV ty op t (isConst x||isConst y) (ρ x) (ρ y) fun v=>K v none
  |false=>match vKg y,ρ y with
  |true, .nsl=>nilV ty h op t (ρ x) fun v=>K v none
  |_,b=>binV ty op t (ρ x) b fun v=>K v none
 | .unOp op _ x=>unV op (ρ x) fun v=>K v none
 | .makeInterface t x=>match yW4 ty t (ρ x).cv with
  |some (.iface u c)=>K (.ifc u c) none
  |_=>none
 | .convert s t x=>vY9 ty h h.length s t (ρ x) K
 | .sliceToArrayPointer t x=>sapV ty t (ρ x) fun v=>K v none
 | .makeFunc f first captured=>match f with
  | .func g=>K (.func g (first.toList.map ρ) (captured.toList.map ρ)) none
  |_=>none
 | .makeSlice t l m=>yKn ty h.length t (ρ l) (ρ m) K
 | .makeMap t r=>xZ3 ty h.length t (r.map ρ) K
 | .lookup t m k ok=>wQ5 ty h t (ρ m) (ρ k) ok fun v=>K v none
 | .slice t x lo hi mx=>wYa ty h t (ρ x) (lo.map ρ) (hi.map ρ) (mx.map ρ) fun v=>K v none
 | .fieldAddr t x f=>yKu ty h t (ρ x) f fun v=>K v none
 | .field t x f=>vQy ty t (ρ x) f fun v=>K v none
 | .indexAddr t x i=>yKr ty h t (ρ x) (ρ i) fun v=>K v none
 | .index t x i=>vQm ty t (ρ x) (ρ i) fun v=>K v none
 | .extract x i=>xKn (ρ x) i fun v=>K v none
 | .call cl=>vWk ty h ρ cl fun v=>K v none
 |_=>none
def copyV(ty:Ty)(h:zQa)(t:TypeId)(d s:VV)(K:VV→zQa→Option β):Option β:=
 match ty t with
 | some i=>match i.desc with
  | .slice e=>match ty e,cOf ty 8 e with
   | some j,some c=>srcV ty h e j s c fun ys=>
    match d with
    | .sref b off len cap ex c'=>match h[b]? with
     | some (.vec c'' ds)=>if c'=c then(if hcc:c''=c then(if Z.Le (Z.addN off len) (Z.len ds)then
       K (.int .i64 (Z.ofN (Z.minN (Z.len ys) len))) (h.set b (.vec c (Z.put (hcc▸ds:List (El c)) off (Z.take (Z.minN (Z.len ys) len) ys))))
      else none)else none)else none
     |_=>none
    | .mix b c' d=>match h[b]? with
     | some (.rows c'' dss)=>if hc':c'=c then(if hcc:c''=c then(if Z.XW (hcc▸dss:List (List (El c))) (hc'▸d:MixE (El c))then
       Z.bnd (Z.xput (hcc▸dss:List (List (El c))) (hc'▸d:MixE (El c)) (Z.take (Z.minN (Z.len ys) (Z.xlen d)) ys)) fun m=>
       K (.int .i64 (Z.ofN (Z.minN (Z.len ys) (Z.xlen d)))) (h.set b (.rows c m))
      else none)else none)else none
     |_=>none
    |_=>none
   |_,_=>none
  |_=>none
 |none=>none
def codeS(c:Option C)(s x:VV):Option C:=
 match s with
 | .sl c0 _ none true=>some c0
 | .sref _ _ len _ ex _=>(match ex with
  | true=>(match len with
   |0=>(match x with
    | .mix _ c1 _=>some c1
    | .sref _ _ _ _ _ c1=>some c1
    |_=>c)
   |_=>c)
  |false=>c)
 |_=>c
def srcS(ty:Ty)(h:zQa)(e:TypeId)(j:TI)(s:VV)(c:C)(K:List (El c)→Option β):Option β:=
 match s with
 | .sref b off len cap ex c'=>(match decEq c' c with
  |isTrue _=>srcV ty h e j (.sref b off len cap ex c') c K
  | isFalse _=>(match h[b]? with
   | some (.vec _ _)=>(match ex with
    |true=>(match len with
     |0=>srcV ty h e j (.sref b off 0 cap true c') c' fun _=>K []
     |_=>none)
    |false=>none)
   |_=>srcV ty h e j (.sref b off len cap ex c') c K))
 |s=>srcV ty h e j s c K
def xK0(ty:Ty)(h:zQa)(t u:TypeId)(s x:VV)(K:VV→zQa→Option β):Option β:=
 match ty t,ty u with
 | some i,some iu=>
  match i.desc with
  | .slice e=>match ty e,codeS (cOf ty 8 e) s x with
   | some j,some c=>
    if yWc iu.desc=false∧¬2^30<j.bytes then
     srcV ty h e j x c fun ys=>srcS ty h e j s c fun xs=>
      if Z.EqN (Z.len ys) 0 then(match s with
       | .sl _ _ _ _=>K s h
       | .nsl=>K s h
       | .sref _ _ _ _ _ _=>K s h
       |_=>none)
      else if Z.Big (Z.len xs) (Z.len ys) j.bytes then none else
      match s with
      | .sl c' _ tok full=>match full with
       |true=>Z.bnd (Z.app xs ys) fun zs=>K (.sref h.length 0 (Z.len zs) (Z.len zs) false c) (h++[.vec c zs])
       |false=>none
      | .nsl=>Z.bnd (Z.app xs ys) fun zs=>K (.sref h.length 0 (Z.len zs) (Z.len zs) false c) (h++[.vec c zs])
      | .sref b _ _ _ _ _=>Z.bnd (Z.app xs ys) fun zs=>K (.sref h.length 0 (Z.len zs) (Z.len zs) false c) (h.set b .dead++[.vec c zs])
      |_=>none
    else none
   |_,_=>none
  |_=>none
 |_,_=>none
def vXa(j:TI)(c:C):Bool:=
 match zeroV j with
 |some z=>z.same (valC c (dfl c))
 |none=>false
noncomputable def xKz(ty:Ty)(h:zQa)(t u:TypeId)(s x:VV)(K:VV→zQa→Option β):Option β:=
 match ty t,ty u with
 | some i,some iu=>
  match i.desc with
  | .slice e=>match ty e,cOf ty 8 e with
   | some j,some c=>
    if yWc iu.desc=true∧¬2^30<j.bytes∧vXa j c=true then
     match x with
     | .int _ n=>srcV ty h e j s c fun xs=>if Z.ZOk n j.bytes then Z.bnd (Z.rep (Z.toN n) (dfl c)) fun ys=>
      if Z.EqN (Z.len ys) 0 then none else if Z.Big (Z.len xs) (Z.len ys) j.bytes then none else
      match s with
      | .sl c' _ tok full=>match full with
       |true=>Z.bnd (Z.app xs ys) fun zs=>K (.sref h.length 0 (Z.len zs) (Z.len zs) false c) (h++[.vec c zs])
       |false=>none
      | .nsl=>Z.bnd (Z.app xs ys) fun zs=>K (.sref h.length 0 (Z.len zs) (Z.len zs) false c) (h++[.vec c zs])
      | .sref b _ _ _ _ _=>Z.bnd (Z.app xs ys) fun zs=>K (.sref h.length 0 (Z.len zs) (Z.len zs) false c) (h.set b .dead++[.vec c zs])
      |_=>none
      else none
     |_=>none
    else none
   |_,_=>none
  |_=>none
 |_,_=>none
noncomputable def yYe(ty:Ty)(h:zQa)(t u:TypeId)(s x:VV)(K:VV→zQa→Option β):Option β:=
 match ty t,ty u with
 | some i,some iu=>
  match i.desc with
  | .slice e=>match ty e,cOf ty 8 e with
   | some j,some c=>
    if yWc iu.desc=true∧¬2^30<j.bytes∧vXa j c=true then
     match x with
     | .int _ n=>srcV ty h e j s c fun xs=>if Z.ZOk n j.bytes then Z.bnd (Z.rep (Z.toN n) (dfl c)) fun ys=>
      if Z.Big (Z.len xs) (Z.len ys) j.bytes then none else
      match s with
      | .sl c' _ tok full=>match full with
       |true=>none
       | false=>match tok with
        |some k=>match h[k]? with
         |some (.tail v)=>if Z.EqN v (Z.len xs)then Z.bnd (Z.app xs ys) fun zs=>K (.sl c zs (some k) false) (h.set k (.tail (Z.len zs)))else none
         |_=>none
        |none=>none
      | .nsl=>Z.bnd (Z.app xs ys) fun zs=>K (.sl c zs (some h.length) false) (h++[.tail (Z.len zs)])
      |_=>none
      else none
     |_=>none
    else none
   |_,_=>none
  |_=>none
 |_,_=>none
def wZh(ty:Ty)(u:TypeId):Bool:=
 match ty u with
 |some iu=>yWc iu.desc
 |none=>false
def srA(v:VV):Bool:=match v with
 | .sref _ _ _ _ _ _=>true
 |_=>false
def uQa:C→Nat→Option C
 | .list c,_=>some c
 | .pair a b,j=>if j<a.cells then uQa a j else uQa b (j-a.cells)
 |_,_=>none
def vYx(c0:C)(b j:Nat)(h:zQa)(K:zQa→Option β):Option β:=
 match h[b]? with
 | some (.cells vs)=>match vs[j]? with
  |some (.sref b1 off len cap ex c)=>match h[b1]? with
   |some (.vec c' ds)=>if b1≠b∧c'=c∧c.cells=1∧c.agg=false then(if Z.Le (Z.addN off len) (Z.len ds)then K ((h.set b1 .dead).set b (.cells (vs.set j (.sl c' (Z.seg ds off len) none false))))else none)else none
   |_=>none
  |some .nsl=>(match uQa c0 (j % c0.cells)with
   |some c'=>if c'.cells=1 then K (h.set b (.cells (vs.set j (.sl c' [] none false))))else none
   |none=>none)
  |some (.sl _ _ none true)=>none
  |some (.mix _ _ _)=>none
  |_=>K h
 |_=>none
def vYt(c0:C)(b:Nat):List Nat→zQa→(zQa→Option β)→Option β
 |[],h,K=>K h
 |j::js,h,K=>vYx c0 b j h fun h=>vYt c0 b js h K
def frzX(h:zQa)(x:VV)(K:zQa→Option β):Option β:=
 match x with
 | .sref b _ _ _ _ c=>match h[b]? with
  |some (.cells vs)=>(match vs.any srA with
   |true=>vYt c b (List.range vs.length) h K
   |false=>K h)
  |_=>K h
 |_=>K h
def zeroW(j:TI)(c:C):Bool:=
 match zeroV j with
 |some z=>(wk z).same (valC c (dfl c))
 |none=>false
noncomputable def ysV(ty:Ty)(h:zQa)(e:TypeId)(j:TI)(d:TypeDesc)(x:VV)(c:C)(K:List (El c)→Option β):Option β:=
 match yWc d with
 |false=>srcV ty h e j x c K
 | true=>(match zeroW j c with
  |true=>(match x with
   | .int _ n=>if Z.ZOk n j.bytes then Z.bnd (Z.rep (Z.toN n) (dfl c)) K else none
   |_=>none)
  |false=>none)
noncomputable def yYf(g:Bool)(ty:Ty)(h:zQa)(t u:TypeId)(s x:VV)(K:VV→zQa→Option β):Option β:=
 match ty t,ty u with
 | some i,some iu=>
  match i.desc with
  | .slice e=>match ty e,cOf ty 8 e with
   | some j,some c=>
    if ¬ 2 ^30<j.bytes then
     ysV ty h e j iu.desc x c fun ys=>srcV ty h e j s c fun xs=>
      match s with
      | .sref b off len cap ex c'=>match h[b]? with
       | some (.vec c'' ds)=>if hcc:c''=c∧c'=c then(if Z.Big (Z.len xs) (Z.len ys) j.bytes then none else
         if Z.Le (Z.addN len (Z.len ys)) cap then(match g with
          |false=>(if Z.Le (Z.addN off (Z.addN len (Z.len ys))) (Z.len ds)then
           Z.bnd (Z.put (hcc.1▸ds:List (El c)) (Z.addN off len) ys) fun zs=>K (.sref b off (Z.addN len (Z.len ys)) cap ex c) (h.set b (.vec c zs))else none)
          |true=>none)
         else(match g with
          |true=>(match ex with
           |true=>Z.bnd (Z.app xs ys) fun zs=>K (.sref h.length 0 (Z.len zs) (Z.len zs) false c) (h++[.vec c zs])
           |false=>none)
          |false=>none))else none
       |_=>none
      |_=>none
    else none
   |_,_=>none
  |_=>none
 |_,_=>none
noncomputable def xK1(ty:Ty)(h:zQa)(t u:TypeId)(s x:VV)(K:VV→zQa→Option β):Option β:=
 match ty t,ty u with
 | some i,some iu=>
  match i.desc with
  | .slice e=>match ty e,cOf ty 8 e with
   | some j,some c=>
    if ¬ 2^30<j.bytes then
     ysV ty h e j iu.desc x c fun ys=>srcV ty h e j s c fun xs=>
      match s with
      | .sref b off len cap ex c'=>match h[b]? with
       | some (.vec c'' ds)=>if hcc:c''=c∧c'=c then(if Z.Big (Z.len xs) (Z.len ys) j.bytes then none else
         if Z.Le (Z.addN len (Z.len ys)) cap then
          Z.bnd (Z.put (hcc.1▸ds:List (El c)) (Z.addN off len) ys) fun zs=>K (.sref b off (Z.addN len (Z.len ys)) cap ex c) (h.set b (.vec c zs))
         else(match ex with
          |true=>Z.bnd (Z.app xs ys) fun zs=>K (.sref h.length 0 (Z.len zs) (Z.len zs) false c) (h++[.vec c zs])
          |false=>none))else none
       |_=>none
      |_=>none
    else none
   |_,_=>none
  |_=>none
 |_,_=>none
noncomputable def vQ9(ty:Ty)(h:zQa)(t:TypeId)(d s:VV)(K:VV→zQa→Option β):Option β:=
 match ty t with
 | some i=>match i.desc with
  | .slice e=>match ty e,cOf ty 8 e,d,s with
   |some j,some c, .sref b off len _ _ c', .sref b2 off2 len2 _ _ c2'=>(match h[b]?,h[b2]? with
    | some (.vec c1 ds),some (.vec c2 ds2)=>if hcc:c1=c∧c2=c∧c'=c∧c2'=c∧fitC j c=true then
      (if Z.Le (Z.addN off2 (Z.minN len2 len)) (Z.len ds2)then(if Z.Le off (Z.len ds)then
       K (.int .i64 (Z.ofN (Z.minN len2 len))) (h.set b (.vec c (Z.put (hcc.1▸ds:List (El c)) off (Z.seg (hcc.2.1▸ds2:List (El c)) off2 (Z.minN len2 len)))))
      else none)else none)else none
    |_,_=>none)
   |_,_,_,_=>none
  |_=>none
 |none=>none
noncomputable def vWe(ty:Ty)(h:zQa)(t:TypeId)(s:VV)(K:VV→zQa→Option β):Option β:=
 match ty t with
 | some i=>match i.desc with
  | .slice e=>match ty e,cOf ty 8 e with
   | some j,some c=>if CV.yXn (valC c (dfl c)).flat (j.zero.map wz)=true∧j.size=c.cells then(match s with
    | .sref b off len _ _ c'=>(match h[b]? with
     | some (.vec c'' ds)=>if hcc:c''=c∧c'=c then(if Z.Le (Z.addN off len) (Z.len ds)then
       Z.bnd (Z.put (hcc.1▸ds:List (El c)) off (Z.rep len (dfl c))) fun zs=>K (.tuple []) (h.set b (.vec c zs))else none)else none
     |_=>none)
    | .mix b c' d=>(match h[b]? with
     | some (.rows c'' dss)=>if hcc:c''=c∧c'=c then(if Z.XW (hcc.1▸dss:List (List (El c))) (hcc.2▸d:MixE (El c))then
       Z.bnd (Z.xput (hcc.1▸dss:List (List (El c))) (hcc.2▸d:MixE (El c)) (Z.rep (Z.xlen d) (dfl c))) fun m=>K (.tuple []) (h.set b (.rows c m))else none)else none
     |_=>none)
    |_=>none)else none
   |_,_=>none
  |_=>none
 |none=>none
def wQc(ty:Ty)(h:zQa)(t:TypeId)(x v:VV)(K:zQa→Option β):Option β:=
 match x,v with
 | .xptr _ _ _ _ _, .sref b1 off len _ _ c1=>match h[b1]? with
  |some (.vec c' ds)=>if c'=c1∧c1.cells=1∧c1.agg=false then(if Z.Le (Z.addN off len) (Z.len ds)then yQt ty (h.set b1 .dead) t x (.sl c' (Z.seg ds off len) none false) K else none)else none
  |_=>none
 |_,_=>yQt ty h t x v K
noncomputable def opVL(lit:Nat)(ty:Ty)(h:zQa)(ρ:Operand→VV)(o:Op)(K:VV→zQa→Option β):Option β:=
 match o with
 | .store t a x=>wQc ty h t (ρ a) (ρ x) fun h'=>K .undef h'
 | .mapUpdate t m k v=>yKl ty h t (ρ m) (ρ k) (ρ v) fun h'=>K .undef h'
 | .call cl=>match cl.callee,cl.args.toList,cl.argTypes.toList with
  | .builtin .append,[s,x],[t,u]=>(match lit with
   | 0=>frzX h (ρ x) fun h=>(match ρ s with
    | .mix b c d=>xWa ty h t u b c d (ρ x) K
    |sv=>(match wZh ty u with
     |true=>xKz ty h t u sv (ρ x) K
     |false=>xK0 ty h t u sv (ρ x) K))
   | 1=>frzX h (ρ x) fun h=>(match ρ s with
    | .mix b c d=>xWa ty h t u b c d (ρ x) K
    |sv=>(match wZh ty u with
     |true=>yYe ty h t u sv (ρ x) K
     |false=>yX6 ty h t u sv (ρ x) K))
   | 5=>frzX h (ρ x) fun h=>(match ρ s with
    | .mix b c d=>xWa ty h t u b c d (ρ x) K
    | sv=>(match wKl ty t with
     |true=>(match wZh ty u with
      |true=>xKz ty h t u sv (ρ x) K
      |false=>xK0 ty h t u sv (ρ x) K)
     |false=>(match wZh ty u with
      |true=>yYe ty h t u sv (ρ x) K
      |false=>yX6 ty h t u sv (ρ x) K)))
   |2=>yYf false ty h t u (ρ s) (ρ x) K
   |4=>xK1 ty h t u (ρ s) (ρ x) K
   |_=>yYf true ty h t u (ρ s) (ρ x) K)
  | .builtin .clear,[s],[t]=>vWe ty h t (ρ s) K
  | .builtin .copy,[d,s],[t,_]=>(match lit with
   |4=>vQ9 ty h t (ρ d) (ρ s) K
   |_=>copyV ty h t (ρ d) (ρ s) K)
  |_,_,_=>none
 |_=>none
def VV.blk:VV→List Nat
 | .ptr b _=>[b]
 | .ptrE b _ _=>[b]
 | .ptrF b _ _ _=>[b]
 | .sref b _ _ _ _ _=>[b]
 | .sl _ _ (some k) _=>[k]
 | .map b=>[b]
 | .mix b _ _=>[b]
 | .xptr b _ _ _ _=>[b]
 |_=>[]
def blkA(v:VV):List Nat:=match srA v with
 |true=>v.blk
 |false=>[]
def xW4(h:zQa)(x:VV):List Nat:=match x with
 | .sref b _ _ _ _ _=>match h[b]? with
  |some (.cells vs)=>(match vs.any srA with
   |true=>b::vs.flatMap blkA
   |false=>[])
  |_=>[]
 |_=>[]
def wJq(x v:VV):List Nat:=match x,v with
 | .xptr _ _ _ _ _, .sref b1 _ _ _ _ _=>[b1]
 |_,_=>[]
def zK1(h:zQa)(ρ:Operand→VV)(o:Op):List Nat:=
 match o with
 | .store _ a x=>(ρ a).blk++wJq (ρ a) (ρ x)
 | .mapUpdate _ m _ _=>(ρ m).blk
 | .call cl=>match cl.args.toList with
  |[s,x]=>(match cl.callee with
   | .builtin .append=>(ρ s).blk++xW4 h (ρ x)
   |_=>(ρ s).blk)
  |s::_=>(ρ s).blk
  |[]=>[]
 |_=>[]
def C.yYu:C→Bool
 | .list _=>false
 | .mix _ _=>false
 | .pair a b=>a.yYu&&b.yYu
 | .arr _ c=>c.yYu
 |_=>true
def mklB(ty:Ty)(t:TypeId):Bool:=
 match ty t with
 | some i=>match i.desc with
  | .slice e=>match cOf ty 8 e with
   |some (.list _)=>true
   |_=>false
  |_=>false
 |none=>false
def zcw:List CV→List CV→Bool
 |[],ys=>ys.isEmpty
 | x::xs,ys=>match ys with
  |[]=>false
  |y::ys=>(match x,y with
   | .slice 0 [] none true, .slice _ [] none false=>true
   |x,y=>CV.same x y)&&zcw xs ys
def mkzB(ty:Ty)(t:TypeId):Bool:=
 match ty t with
 | some i=>match i.desc with
  | .slice e=>match cOf ty 8 e with
   |some c=>!c.yYu
   |_=>false
  |_=>false
 |none=>false
noncomputable def vYg(ty:Ty)(h:zQa)(ρ:Operand→VV)(o:Op)(K:VV→zQa→Option β):Option β:=
 match o with
 | .makeSlice t lo mo=>match ty t,ρ lo,ρ mo with
  | some i, .int _ l, .int _ cc=>match i.desc with
   | .slice e=>match ty e,cOf ty 8 e with
    | some j,some c=>if zcw j.zero (valC c (dfl c)).flat=true∧j.size=c.cells then
      (if Z.MkOk l cc j.bytes then K (.sref h.length 0 (Z.toN l) (Z.toN cc) true c) (h++[.vec c (Z.rep (Z.toN cc) (dfl c))])else none)else none
    |_,_=>none
   |_=>none
  |_,_,_=>none
 |_=>none
noncomputable def vYi(ty:Ty)(h:zQa)(ρ:Operand→VV)(o:Op)(K:VV→zQa→Option β):Option β:=
 match o with
 | .makeSlice t lo mo=>match ty t,ρ lo,ρ mo with
  | some i, .int _ l, .int _ cc=>match i.desc with
   | .slice e=>match ty e,cOf ty 8 e with
    |some j,some (.list c)=>match j.zero with
     | [.slice 0 [] none true]=>if j.size=1 then
       (if Z.MkOk l cc j.bytes then K (.sref h.length 0 (Z.toN l) (Z.toN cc) true (.mix (h.length+1) c)) (h++[.vec (.mix (h.length+1) c) (Z.xK4 (Z.toN cc)), .rows c (Z.rep (Z.toN cc) [])])else none)else none
     |_=>none
    |_,_=>none
   |_=>none
  |_,_,_=>none
 |_=>none
def vY7(b:Nat):C→Option (C×C)
 | .list c=>some (.mix b c,c)
 | .pair x y=>match vY7 b x with
  |some (x',e)=>some (.pair x' y,e)
  |none=>(match vY7 b y with
   |some (y',e)=>some (.pair x y',e)
   |none=>none)
 |_=>none
noncomputable def vYh(ty:Ty)(h:zQa)(ρ:Operand→VV)(o:Op)(K:VV→zQa→Option β):Option β:=
 match o with
 | .makeSlice t lo mo=>match ty t,ρ lo,ρ mo with
  | some i, .int _ l, .int _ cc=>match i.desc with
   | .slice e=>match ty e,cOf ty 8 e with
    | some j,some (.list c)=>match vY7 h.length c with
     |some (c2,e2)=>(match j.zero with
      | [.slice 0 [] none true]=>if j.size=1 then
        (if Z.MkOk l cc j.bytes then K (.sref (h.length+1) 0 (Z.toN l) (Z.toN cc) true (.mix (h.length+2) c2)) ((h++[.rows e2 []])++[.vec (.mix (h.length+2) c2) (Z.xK4 (Z.toN cc)), .rows c2 (Z.rep (Z.toN cc) [])])else none)else none
      |_=>none)
     |none=>none
    |_,_=>none
   |_=>none
  |_,_,_=>none
 |_=>none
inductive OpKind where
 |quiet|loud|mkl|bsl|call (f:Operand)|pan (x:Operand)
def xJ1(ty:Ty)(o:Op):OpKind:=
 match o with
 | .makeSlice t _ _=>if mkzB ty t then .mkl else .quiet
 | .buildSlice t _ _=>if mklB ty t then .bsl else .quiet
 | .store _ _ _=>.loud
 | .mapUpdate _ _ _ _=>.loud
 | .panic x=>.pan x
 | .call cl=>match cl.callee with
  | .value f=>.call f
  | .builtin .append=>.loud
  | .builtin .copy=>.loud
  | .builtin .clear=>.loud
  |_=>.quiet
 |_=>.quiet
def putV(tmps:List VV)(dst:Option Tmp)(v:VV):List VV:=
 match dst with
 |some d=>tmps.set d v
 |none=>tmps
def xY7(ops:Array Oper)(tmps:List VV)(o:Oper)(K:List VV→Bool→Option β):Option β:=
 match o.guard with
 |none=>K tmps true
 | some (j,want)=>
  match(ops[j]?).bind (·.dst)with
  |none=>K tmps false
  | some d=>match tmps[d]? with
   |some (.bool b)=>match b with
    |true=>K (tmps.set d (.bool true)) (true==want)
    |false=>K (tmps.set d (.bool false)) (false==want)
   |some .undef=>K tmps false
   |some (.tuple _)=>K tmps false
   |none=>K tmps false
   |_=>none
@[reducible] def Els:List C→Type
  |[]=>Unit
  |[c]=>El c
  |c::d::cs=>El c×Els (d::cs)
def zQx:(cs:List C)→Els cs→List VV
 |[],_=>[]
 |[c],d=>[valV c d]
 |c::e::cs,d=>valV c d.1::zQx (e::cs) d.2
structure PFn where
 args:List C
 res:List C
 fn:Els args→Option (Els res)
mutual
def deW:(c:C)→VV→Option (El c)
 | .bool,v=>match v with
  | .bool b=>some b
  |_=>none
 | .int k,v=>match v with
  | .int k' n=>if k=k' then some n else none
  |_=>none
 | .str,v=>match v with
  | .str s=>some s
  |_=>none
 | .list c,v=>match v with
  | .sl c' ds _ _=>if h:c'=c then some (h▸ds)else none
  | .nsl=>some []
  |_=>none
 | .unit,v=>match v with
  | .agg vs=>deWs .unit vs
  |_=>none
 | .pair a b,v=>match v with
  | .agg vs=>deWs (.pair a b) vs
  |_=>none
 | .arr n c,v=>match v with
  | .av n' c' ds=>if h:c'=c then(if n'=n then some (h▸ds)else none)else none
  | .agg vs=>arrW n c vs
  |_=>none
 | .mix b c,v=>match v with
  | .mix b' c' d=>if h:b'=b∧c'=c then some (h.2▸d)else none
  | .sl c' ds _ _=>if h:c'=c then some (Z.yZ7 (h▸ds))else(match c' with
   | .arr n _=>(match ds with
    |[]=>if n=c.cells then some (Z.yZ7 [])else none
    |_::_=>none)
   |_=>none)
  | .nsl=>some Z.xnil
  |_=>none
def deWs:(c:C)→List VV→Option (El c)
 | .unit,vs=>match vs with
  |[]=>some ()
  |_=>none
 | .pair a b,vs=>match deWs a (vs.take a.cells),deWs b (vs.drop a.cells)with
  |some x,some y=>some (x,y)
  |_,_=>none
 | .arr n c,vs=>arrW n c vs
 | .bool,vs=>match vs with
  |[.bool b]=>some b
  |_=>none
 | .int k,vs=>match vs with
  |[.int k' n]=>if k=k' then some n else none
  |_=>none
 | .str,vs=>match vs with
  |[.str s]=>some s
  |_=>none
 | .list c,vs=>match vs with
  |[.sl c' ds _ _]=>if h:c'=c then some (h▸ds)else none
  |[.nsl]=>some []
  |_=>none
 | .mix b c,vs=>match vs with
  |[.mix b' c' d]=>if h:b'=b∧c'=c then some (h.2▸d)else none
  | [.sl c' ds _ _]=>if h:c'=c then some (Z.yZ7 (h▸ds))else(match c' with
   | .arr n _=>(match ds with
    |[]=>if n=c.cells then some (Z.yZ7 [])else none
    |_::_=>none)
   |_=>none)
  |[.nsl]=>some Z.xnil
  |_=>none
end
def C.isL:C→Bool
 | .list _=>true
 |_=>false
def deWl(c:C):List VV→Option (List (El c))
 |[]=>some []
 |v::vs=>match deW c v,deWl c vs with
  |some d,some ds=>some (d::ds)
  |_,_=>none
noncomputable def wZu(ty:Ty)(h:zQa)(ρ:Operand→VV)(o:Op)(K:VV→zQa→Option β):Option β:=
 match o with
 | .buildSlice t len parts=>yQi ty h.length t len (parts.toList.map fun p=>(p.1,ρ p.2)) fun v new=>match new with
  | some (.cells vs)=>match v with
   | .sref n off l cap ex c=>if c.isL=true then(match deWl c vs with
    |some ds=>K (.sref n off l cap ex c) (h++[.vec c ds])
    |none=>K (.sref n off l cap ex c) (h++[.cells vs]))else none
   |_=>none
  |some b=>K v (h++[b])
  |none=>none
 |_=>none
def yJr(h:zQa):(c1 c2:C)→{γ:Type}→El c1→(El c2→Option γ)→Option γ
 | .pair a b,c2,_,d,K=>match c2,K with
  | .pair a2 b2,K=>yJr h a a2 d.1 fun x=>yJr h b b2 d.2 fun y=>K (x,y)
  |_,_=>none
 | .mix b c,c2,_,d,K=>match c2,K with
  | .list c',K=>match h[b]? with
   |some (.rows c'' dss)=>if hc:c''=c then(if Z.XOk (hc▸dss:List (List (El c))) d then(match decEq c c' with
    |isTrue hcc=>Z.bnd (Z.xget (hc▸dss:List (List (El c))) d) fun x=>K (hcc▸x)
    |isFalse _=>Z.bind (Z.mapO (fun e=>yJr h c c' e some) (Z.xget (hc▸dss:List (List (El c))) d)) K)else none)else none
   |_=>none
  |_,_=>none
 | .bool,c2,_,d,K=>if hc: .bool=c2 then K (hc▸d)else none
 | .int k,c2,_,d,K=>if hc: .int k=c2 then K (hc▸d)else none
 | .str,c2,_,d,K=>if hc: .str=c2 then K (hc▸d)else none
 | .unit,c2,_,d,K=>if hc: .unit=c2 then K (hc▸d)else none
 | .list c,c2,_,d,K=>if hc: .list c=c2 then K (hc▸d)else none
 | .arr n c,c2,_,d,K=>if hc: .arr n c=c2 then K (hc▸d)else none
def deF0(h:zQa)(c:C)(v:VV)(K:El c→Option β):Option β:=
 match c,v,K with
 | .list c, .sref b off len _ _ c',K=>match h[b]? with
  | some (.vec c'' ds)=>if c'=c then(if hc:c''=c then(if Z.Le (Z.addN off len) (Z.len ds)then K (Z.seg (hc▸ds:List (El c)) off len)else none)else none)
    else if c'.pl=false then(if hc:c''=c' then(if Z.Le (Z.addN off len) (Z.len ds)then Z.bind (Z.mapO (fun e=>yJr h c' c e some) (Z.seg (hc▸ds:List (El c')) off len)) K else none)else none)else none
  |some (.cells vs)=>if c'=c then(if c.isL=true then(if off+len≤vs.length then(match deWl c ((vs.drop off).take len)with
   |some ds=>K ds
   |none=>none)else none)else none)else none
  |_=>none
 | .list c, .mix b c' d,K=>yJr h (.mix b c') (.list c) d K
 |c,v,K=>match deW c v with
  |some d=>K d
  |none=>none
def zXm:VV→Bool
 | .sref _ _ _ _ _ _=>true
 | .mix _ _ _=>true
 |_=>false
def mix1:VV→Bool
 | .mix _ _ _=>true
 | .sref _ _ _ _ _ c=>!c.pl
 |_=>false
def zK2:VV→Bool
 | .agg vs=>vs.any mix1
 |v=>mix1 v
def aggS:VV→Bool
 | .agg vs=>vs.any zXm
 |_=>false
def deS(h:zQa):(c:C)→List VV→(El c→Option β)→Option β
 | .unit,vs,K=>match vs with
  |[]=>K ()
  |_=>none
 | .pair a b,vs,K=>deS h a (vs.take a.cells) fun x=>deS h b (vs.drop a.cells) fun y=>K (x,y)
 | .list c,vs,K=>match vs with
  |[v]=>deF0 h (.list c) v K
  |_=>none
 | .bool,vs,K=>match deWs .bool vs with
  |some d=>K d
  |none=>none
 | .int k,vs,K=>match deWs (.int k) vs with
  |some d=>K d
  |none=>none
 | .str,vs,K=>match deWs .str vs with
  |some d=>K d
  |none=>none
 | .arr n c,vs,K=>match deWs (.arr n c) vs with
  |some d=>K d
  |none=>none
 | .mix b c,vs,K=>none
def deF(h:zQa)(c:C)(v:VV)(K:El c→Option β):Option β:=
 match c.pl with
 |false=>none
 |true=>match aggS v with
 |false=>deF0 h c v K
 |true=>match c,v,K with
  | .pair a b, .agg vs,K=>deS h (.pair a b) vs K
  |_,_,_=>none
def deFs(h:zQa):(cs:List C)→List VV→(Els cs→Option β)→Option β
 |[],vs,K=>match vs with
  |[]=>K ()
  |_=>none
 |[c],vs,K=>match vs with
  |[v]=>deF h c v K
  |_=>none
 |c::e::cs,vs,K=>match vs with
  |v::vs=>deF h c v fun d=>deFs h (e::cs) vs fun ds=>K (d,ds)
  |_=>none
def zWr(v:VV):Bool:=zXm v||aggS v
def VV.blkS:VV→List Nat
 | .agg vs=>vs.flatMap fun v=>if zXm v then v.blk else []
 |v=>v.blk
def C.scalar:C→Bool
 | .list _=>false
 | .mix _ _=>false
 | .pair a b=>a.scalar&&b.scalar
 | .arr _ c=>c.scalar
 |_=>true
def oneV:List VV→VV
 |[v]=>v
 |vs=>.tuple vs
@[reducible] def SK.D:SK→Type
  | .val c=>El c
  | .slt c _ _=>List (El c)
  | .sref _ _ _=>Nat×Nat×Nat
def SK.put:(s:SK)→s.D→VV
 | .val c,d=>valV c d
 | .slt c tok full,d=>.sl c d tok full
 | .sref b ex c,d=>.sref b d.1 d.2.1 d.2.2 ex c
def SK.get:(s:SK)→VV→Option s.D
 | .val c,v=>deW c v
 | .slt c tok full,v=>match v with
  | .sl c' ds tok' full'=>if h:c'=c then(if(tok=none∨tok'=tok)∧(full=false∨full'=full)then some (h▸ds)else none)else none
  | .nsl=>if tok=none then some []else none
  |_=>none
 | .sref b ex c,v=>match v with
  | .sref b' off len cap ex' c'=>if b'=b∧ex'=ex∧c'=c then some (off,len,cap)else none
  |_=>none
def SK.getX:(s:SK)→VV→Option s.D
 | .val c,v=>match c with
  | .bool=>match v with
   | .bool b=>some b
   |_=>none
  | .int k=>match v with
   | .int k' n=>if k=k' then some n else none
   |_=>none
  | .str=>match v with
   | .str s=>some s
   |_=>none
  | .list c=>match v with
   | .sl c' ds none false=>if h:c'=c then some (h▸ds)else none
   |_=>none
  | .mix b c=>match v with
   | .mix b' c' d=>if h:b'=b∧c'=c then some (h.2▸d)else none
   | .sl c' ds none false=>if h:c'=c then some (Z.yZ7 (h▸ds))else none
   | .nsl=>some Z.xnil
   |_=>none
  |_=>none
 | .slt c tok full,v=>match v with
  | .sl c' ds tok' full'=>if h:c'=c then(if tok'=tok∧full'=full then some (h▸ds)else none)else none
  |_=>none
 | .sref b ex c,v=>match v with
  | .sref b' off len cap ex' c'=>if b'=b∧ex'=ex∧c'=c then some (off,len,cap)else none
  |_=>none
@[reducible] def SKs:List SK→Type
  |[]=>Unit
  |[s]=>s.D
  |s::u::l=>s.D×SKs (u::l)
def SKs.put:(l:List SK)→SKs l→List VV
 |[],_=>[]
 |[s],d=>[s.put d]
 |s::u::l,d=>s.put d.1::SKs.put (u::l) d.2
def SKs.getX:(l:List SK)→List VV→Option (SKs l)
 |[],vs=>match vs with
  |[]=>some ()
  |_=>none
 |[s],vs=>match vs with
  |[v]=>s.getX v
  |_=>none
 | s::u::l,vs=>match vs with
  |v::vs=>match s.getX v,SKs.getX (u::l) vs with
   |some d,some ds=>some (d,ds)
   |_,_=>none
  |_=>none
@[reducible] def Item.D:Item→Type
  | .slot _ s=>s.D
  | .cells _ l=>SKs l
  | .vec _ c=>List (El c)
  | .rows _ c=>List (List (El c))
  | .map _ _ _=>List (Int×Int)
@[reducible] def Items:List Item→Type
  |[]=>Unit
  |[x]=>x.D
  |x::y::xs=>x.D×Items (y::xs)
def Item.put:(x:Item)→x.D→List VV×zQa→List VV×zQa
 | .slot i s,d,p=>(p.1.set i (s.put d),p.2)
 | .cells b l,d,p=>(p.1,p.2.set b (.cells (SKs.put l d)))
 | .vec b c,d,p=>(p.1,p.2.set b (.vec c d))
 | .rows b c,d,p=>(p.1,p.2.set b (.rows c d))
 | .map b k1 k2,d,p=>(p.1,p.2.set b (.map k1 k2 d))
def Item.get:(x:Item)→List VV→zQa→Option x.D
 | .slot i s,t,h=>match t[i]? with
  |some v=>s.get v
  |none=>none
 | .cells b l,t,h=>match h[b]? with
  |some (.cells vs)=>SKs.getX l vs
  |_=>none
 | .vec b c,t,h=>match h[b]? with
  |some (.vec c' ds)=>if hc:c'=c then some (hc▸ds)else none
  |_=>none
 | .rows b c,t,h=>match h[b]? with
  |some (.rows c' ds)=>if hc:c'=c then some (hc▸ds)else none
  |_=>none
 | .map b k1 k2,t,h=>match h[b]? with
  |some (.map j1 j2 es)=>if j1=k1∧j2=k2 then some es else none
  |_=>none
def Items.put:(xs:List Item)→Items xs→List VV×zQa→List VV×zQa
 |[],_,p=>p
 |[x],d,p=>x.put d p
 |x::y::xs,d,p=>Items.put (y::xs) d.2 (x.put d.1 p)
def Items.get:(xs:List Item)→List VV→zQa→Option (Items xs)
 |[],_,_=>some ()
 |[x],t,h=>x.get t h
 |x::y::xs,t,h=>match x.get t h,Items.get (y::xs) t h with
  |some d,some ds=>some (d,ds)
  |_,_=>none
def VV.ptrTo(k:Nat):VV→Bool
 | .ptr b _=>b==k
 |_=>false
def xXt(t:List VV)(h:zQa)(k:Nat):Bool:=
 t.any fun v=>match v with
  | .ptr b _=>b==k
  | .func _ _ ys=>ys.any (VV.ptrTo k)
  | .yield l=>match h[l]? with
   |some (.loop _ ts _ _ _ _ _)=>ts.any (VV.ptrTo k)
   |_=>false
  |_=>false
def tokC(k j:Nat)(c:C)(t:List VV)(h:zQa)(m:List Nat)(K:zQa→List Nat→Option β)(P:Option β):Option β:=
 match h[k]? with
 |some (.cells vs)=>if xXt t h k=true then(match vs[j]? with
  |some .nsl=>K ((h++[VObj.tail 0]).set k (.cells (vs.set j (.sl c [] (some h.length) false)))) (k::m)
  |some (.sl c' ds none true)=>if Z.EqN (Z.len ds) 0 then K ((h++[VObj.tail (Z.len ds)]).set k (.cells (vs.set j (.sl c' ds (some h.length) false)))) (k::m)else none
  |some (.sl _ _ (some _) false)=>K h m
  |some (.sref b off len cap ex c')=>if(zZv h b&&b !=k)=true then(if Z.EqN len 0 then K ((h.set b .dead++[VObj.tail 0]).set k (.cells (vs.set j (.sl c' [] (some h.length) false)))) (k::b::m)else none)else P
  |_=>P)else P
 |_=>P
def vXc(k j:Nat)(c:C)(t:List VV)(h:zQa)(m:List Nat)(K:zQa→List Nat→Option β)(P:Option β):Option β:=
 match h[k]? with
 |some (.cells vs)=>if xXt t h k=true then(match vs[j]? with
  |some .nsl=>K (h.set k (.cells (vs.set j (.sl c [] none false)))) (k::m)
  |some (.sl _ _ none false)=>K h m
  |_=>P)else P
 |_=>P
def frzC(k j:Nat)(t:List VV)(h:zQa)(m:List Nat)(K:zQa→List Nat→Option β):Option β:=
 match h[k]? with
 | some (.cells vs)=>if xXt t h k=true then(match vs[j]? with
  |some (.sref b off len cap ex c)=>if b≠k then(match h[b]? with
   | some (.vec c' ds)=>if c'=c then(if Z.Le (Z.addN off len) (Z.len ds)then
     K ((h.set b .dead).set k (.cells (vs.set j (.sl c' (Z.seg ds off len) none false)))) (k::b::m)else none)else none
   |_=>K h m)else K h m
  |_=>K h m)else K h m
 |_=>K h m
def vX4(t:List VV)(g:zQa)(i:Nat):Option VV:=
 if 3000000≤i then(match t[(i-3000000)/1000]? with
  |some (.ptr b _)=>(match g[b]? with
   |some (.cells vs)=>vs[(i-3000000) % 1000]?
   |_=>none)
  |_=>none)else if 2000000≤i then(match g[(i-2000000)/1000]? with
  |some (.cells vs)=>vs[(i-2000000) % 1000]?
  |_=>none)else t[i]?
def relB(t:List VV)(h:zQa)(k:Nat):Nat:=if 2000000≤k then(match vX4 t h k with
 |some v=>v.blk.headD 0
 |none=>0)else if 1000000≤k then(match t[k-1000000]? with
 |some v=>v.blk.headD 0
 |none=>0)else k
def relN(t:List VV)(h:zQa)(k:Nat):Nat:=if 900000000≤k then h.length-(k-900000000)else if 10000000≤k then relB t h (k % 10000000)-k/10000000 else relB t h k
@[reducible] def C.ren(f:Nat→Nat):C→C
  | .list c=>.list (c.ren f)
  | .pair a b=>.pair (a.ren f) (b.ren f)
  | .arr n c=>.arr n (c.ren f)
  | .mix b c=>.mix (f b) (c.ren f)
  |c=>c
def zWh(t:List VV)(h:zQa)(c:C):C:=c.ren fun b=>if 900000000≤b then h.length-(b-900000000)else relN t h b
def injO:(c c2:C)→El c→Option (El c2)
 | .pair a b,c2,d=>match c2 with
  | .pair a2 b2=>match injO a a2 d.1,injO b b2 d.2 with
   |some x,some y=>some (x,y)
   |_,_=>none
  |_=>none
 | .list a,c2,d=>match c2 with
  | .mix b a2=>if h:a=a2 then some (Z.yZ7 (h▸d:List (El a2)))else none
  | .list a2=>if h:a=a2 then some (h▸d:List (El a2))else none
  |_=>none
 | .bool,c2,d=>if h: .bool=c2 then some (h▸d)else none
 | .int k,c2,d=>if h: .int k=c2 then some (h▸d)else none
 | .str,c2,d=>if h: .str=c2 then some (h▸d)else none
 | .unit,c2,d=>if h: .unit=c2 then some (h▸d)else none
 | .arr n c,c2,d=>if h: .arr n c=c2 then some (h▸d)else none
 | .mix b c,c2,d=>if h: .mix b c=c2 then some (h▸d)else none
def xYr(c c2:C)(ds:List (El c))(K:List (El c2)→Option β):Option β:=
 match decEq c c2 with
 |isTrue h=>K (h▸ds)
 |isFalse _=>Z.bind (Z.mapO (fun e=>injO c c2 e) ds) K
def vZg(k j:Nat)(c0:C)(t:List VV)(h:zQa)(m:List Nat)(K:zQa→List Nat→Option β)(P:Option β):Option β:=
 match h[k]? with
 | some (.cells vs)=>if xXt t h k=true then(match vs[j]? with
  |some .nsl=>K ((h++[VObj.rows (zWh t h c0) [[]]]).set k (.cells (vs.set j (.mix h.length (zWh t h c0) (Z.xnew 0 0))))) (k::m)
  |some (.mix _ _ _)=>K h m
  | some (.sl c1 ds none false)=>if(zWh t h c0).cells=c1.cells then xYr c1 (zWh t h c0) ds fun zs=>
    K ((h++[VObj.rows (zWh t h c0) []]).set k (.cells (vs.set j (.mix h.length (zWh t h c0) (Z.yZ7 zs))))) (k::m)else P
  |some (.sref b off len cap ex c1)=>if b≠k then(match h[b]? with
   | some (.vec c' ds)=>if c'=c1∧(zWh t h c0).cells=c1.cells then(if Z.Le (Z.addN off len) (Z.len ds)then xYr c' (zWh t h c0) (Z.seg ds off len) fun zs=>
     K ((h.set b .dead++[VObj.rows (zWh t h c0) [zs]]).set k (.cells (vs.set j (.mix h.length (zWh t h c0) (Z.xnew 0 len))))) (k::b::m)else none)else P
   |_=>P)else P
  |_=>P)else P
 |_=>P
def recV(b:Nat)(c2:C)(v:VV):VV:=match v with
 | .sref b' off len cap ex c=>if b'=b∧c.cells=c2.cells then .sref b' off len cap ex c2 else v
 |v=>v
def recO(b:Nat)(c2:C)(o:VObj):VObj:=match o with
 | .cells vs=>.cells (vs.map (recV b c2))
 |o=>o
def xQp(b:Nat)(v:VV):Bool:=match v with
 | .sref b' _ _ _ _ _=>decide (b'=b)
 |_=>false
def vKk(b:Nat)(h:zQa):List Nat:=(List.range h.length).filter fun k=>match h[k]? with
 |some (.cells vs)=>vs.any (xQp b)
 |_=>false
def vQr:Nat→(Nat→Option β)→Option β
 |0,K=>K 0
 |n+1,K=>vQr n fun m=>K (m+1)
def yZs:C→(C→Option β)→Option β
 | .pair a b,K=>yZs a fun a=>yZs b fun b=>K (.pair a b)
 | .list a,K=>yZs a fun a=>K (.list a)
 | .mix n a,K=>vQr n fun n=>yZs a fun a=>K (.mix n a)
 |c,K=>K c
theorem xYl:∀(n:Nat) (K:Nat→Option β),vQr n K=K n
 |0,_=>rfl
 |n+1,K=>xYl n _
theorem yWh:∀(c:C) (K:C→Option β),yZs c K=K c
 | .pair a b,K=>by simp only[yZs,yWh a,yWh b]
 | .list a,K=>by simp only[yZs,yWh a]
 | .mix n a,K=>by simp only[yZs,xYl n,yWh a]
 | .bool,_=>rfl
 | .int _,_=>rfl
 | .str,_=>rfl
 | .unit,_=>rfl
 | .arr _ _,_=>rfl
def recS(i:Nat)(c0:C)(t:List VV)(h:zQa)(m:List Nat)(K:zQa→List Nat→Option β)(P:Option β):Option β:=
 match t[i]? with
 |some (.sref b _ _ _ _ _)=>yZs (zWh t h c0) fun c2=>(match h[b]? with
  | some (.vec c' ds)=>if c'=c2 then K h m else if c2.cells=c'.cells then xYr c' c2 ds fun zs=>
    K ((h.map (recO b c2)).set b (.vec c2 zs)) (b::(vKk b h++m))else P
  |_=>P)
 |some (.sl _ _ _ _)=>K h m
 |_=>P
def tokW(i:Nat)(c:C)(t:List VV)(h:zQa)(m:List Nat)(K:zQa→List Nat→Option β)(P:Option β):Option β:=
 if 7000000≤i then vZg ((i-7000000)/1000) ((i-7000000) % 1000) c t h m K P else if 6000000≤i then frzC ((i-6000000)/1000) ((i-6000000) % 1000) t h m K else if 5500000≤i then recS (i-5500000) c t h m K P else if 4000000≤i then vXc ((i-4000000)/1000) ((i-4000000) % 1000) c t h m K P else tokC ((i-2000000)/1000) ((i-2000000) % 1000) c t h m K P
def inCode:C→Option (Nat×C)
 | .arr 0 (.mix q c)=>some (q,c)
 |_=>none
def zXo(id:Nat):List (Nat×C)→List VV→zQa→List Nat→(List VV→zQa→List Nat→Option β)→Option β
 |[],t,h,m,K=>K t h m
 | (i,c)::l,t,h,m,K=>if 9000000≤i then zXo id l t (h++[.rows (zWh t h c) []]) m K else if 8000000≤i then(match t[i-8000000]? with
  | some .nsl=>(match inCode (zWh t h c)with
   |some (q,c2)=>(match h[q]? with
    |some (.rows c3 dss)=>if c3=c2 then zXo id l (t.set (i-8000000) (.mix q c3 (Z.xnew (Z.len dss) 0))) (h.set q (.rows c3 (Z.app dss [[]]))) (q::m) K else Z.zZ3 (id*8+1) t h m
    |_=>Z.zZ3 (id*8+1) t h m)
   |none=>zXo id l (t.set (i-8000000) (.mix h.length (zWh t h c) (Z.xnew 0 0))) (h++[.rows (zWh t h c) [[]]]) m K)
  |some (.mix _ _ _)=>zXo id l t h m K
  |some (.sref b off len cap ex c1)=>(match h[b]? with
   | some (.vec c' ds)=>if c'=c1∧(zWh t h c).cells=c1.cells then(if Z.Le (Z.addN off len) (Z.len ds)then xYr c' (zWh t h c) (Z.seg ds off len) fun zs=>
     zXo id l (t.set (i-8000000) (.mix h.length (zWh t h c) (Z.xnew 0 len))) (h.set b .dead++[.rows (zWh t h c) [zs]]) (b::m) K else none)else Z.zZ3 (id*8+1) t h m
   |_=>Z.zZ3 (id*8+1) t h m)
  |some (.sl c' ds none false)=>(match decEq c' (zWh t h c)with
   |isTrue _=>zXo id l (t.set (i-8000000) (.mix h.length c' (Z.yZ7 ds))) (h++[.rows c' []]) m K
   |isFalse _=>Z.zZ3 (id*8+1) t h m)
  |_=>Z.zZ3 (id*8+1) t h m)else if 2000000≤i then tokW i c t h m (fun h m=>zXo id l t h m K) (Z.zZ3 (id*8+1) t h m)else match t[i]? with
  |some .nsl=>zXo id l (t.set i (.sl c [] (some h.length) false)) (h++[.tail 0]) m K
  |some (.sl c' ds none true)=>if Z.EqN (Z.len ds) 0 then zXo id l (t.set i (.sl c' ds (some h.length) false)) (h++[.tail (Z.len ds)]) m K else none
  |some (.sl _ _ (some _) false)=>zXo id l t h m K
  |some (.sref b off len cap ex c')=>if zZv h b=true then(if Z.EqN len 0 then zXo id l (t.set i (.sl c' [] (some h.length) false)) (h.set b .dead++[.tail 0]) (b::m) K else none)else Z.zZ3 (id*8+1) t h m
  |_=>Z.zZ3 (id*8+1) t h m
def zKm:List (Nat×Nat)→List VV→zQa→zQa→zQa
 |[],_,_,h=>h
 |(b,i)::l,t,g,h=>match vX4 t g i with
  |some (.sl _ ds _ _)=>zKm l t g (h.set b (.tail (Z.len ds)))
  |_=>zKm l t g h
def yQs:List (Nat×Nat)→List VV→zQa→zQa→Option β→Option β
 |[],_,_,_,K=>K
 |(b,i)::l,t,g,h,K=>match vX4 t g i,h[b]? with
  |some (.sl _ ds _ _),some (.tail u)=>if Z.EqN u (Z.len ds)then yQs l t g h K else none
  |_,_=>none
def zZf:List Nat→List VV→List VV
 |[],t=>t
 |i::l,t=>zZf l (t.set i .junk)
def C.inB(n:Nat):C→Bool
 | .list c=>c.inB n
 | .pair a b=>a.inB n&&b.inB n
 | .arr _ c=>c.inB n
 | .mix b c=>decide (b<n)&&c.inB n
 |_=>true
mutual
def VV.inB(n:Nat):VV→Bool
 | .ptr b _=>decide (b<n)
 | .ptrE b _ _=>decide (b<n)
 | .ptrF b _ _ _=>decide (b<n)
 | .rop v=>v.inB n
 | .sl c _ tok _=>c.inB n&&match tok with
  |some k=>decide (k<n)
  |none=>true
 | .av _ c _=>c.inB n
 | .mix b c _=>decide (b<n)&&c.inB n
 | .xptr b _ _ _ _=>decide (b<n)
 | .sref b _ _ _ _ _=>decide (b<n)
 | .func _ xs ys=>VV.inBs n xs&&VV.inBs n ys
 | .yield l=>decide (l<n)
 | .agg vs=>VV.inBs n vs
 | .tuple vs=>VV.inBs n vs
 | .map b=>decide (b<n)
 | .ifc _ c=>zWa c
 |_=>true
def VV.inBs(n:Nat):List VV→Bool
 |[]=>true
 |v::vs=>v.inB n&&VV.inBs n vs
end
def VObj.inB(n:Nat):VObj→Bool
 | .cells vs=>VV.inBs n vs
 | .vec c _=>c.inB n
 | .rows c _=>c.inB n
 | .loop _ ts _ _ _ _ _=>VV.inBs n ts
 |_=>true
def Item.slots:Item→List Nat
 | .slot i _=>[i]
 |_=>[]
def Item.blks:Item→List Nat
 | .cells b _=>[b]
 | .vec b _=>[b]
 | .rows b _=>[b]
 | .map b _ _=>[b]
 |_=>[]
def LSpec.slots(s:LSpec):List Nat:=s.items.flatMap Item.slots++s.junk
def LSpec.blks(s:LSpec):List Nat:=s.items.flatMap Item.blks++s.tails.map (·.1)
def C.rel(t:List VV)(h:zQa):C→C
 | .list c=>.list (c.rel t h)
 | .pair a b=>.pair (a.rel t h) (b.rel t h)
 | .arr n c=>.arr n (c.rel t h)
 | .mix b c=>.mix (relN t h b) (c.rel t h)
 |c=>c
def SK.rel(t:List VV)(h:zQa):SK→SK
 | .val c=>.val (c.rel t h)
 | .slt c tok full=>.slt c (match tok with
  |some k=>some (relN t h k)
  |none=>none) full
 | .sref b ex c=>.sref (relN t h b) ex c
def Item.rel(t:List VV)(h:zQa):Item→Item
 | .slot i s=>.slot i (s.rel t h)
 | .cells b l=>.cells (relN t h b) (l.map (SK.rel t h))
 | .vec b c=>.vec (relN t h b) (c.rel t h)
 | .rows b c=>.rows (relN t h b) (c.rel t h)
 | .map b k1 k2=>.map (relN t h b) k1 k2
def hasB(t:List VV)(h:zQa)(k:Nat):Bool:=if 2000000≤k then(match vX4 t h k with
 |some v=>match v.blk with
  |[]=>false
  |_::_=>true
 |none=>false)else if 1000000≤k then(match t[k-1000000]? with
 |some v=>match v.blk with
  |[]=>false
  |_::_=>true
 |none=>false)else true
def hasN(t:List VV)(h:zQa)(k:Nat):Bool:=hasB t h (if 10000000≤k then k % 10000000 else k)
def Item.has(t:List VV)(h:zQa):Item→Bool
 | .slot _ _=>true
 | .cells b _=>hasN t h b
 | .vec b _=>hasN t h b
 | .rows b _=>hasN t h b
 | .map b _ _=>hasN t h b
def hasI(t:List VV)(h:zQa):List Item→List Item
 |[]=>[]
 |i::l=>match i.has t h with
  |true=>i::hasI t h l
  |false=>hasI t h l
def LSpec.rel(t:List VV)(h:zQa)(s:LSpec):LSpec:={s with items:=(hasI t h s.items).map (Item.rel t h),tails:=s.tails.map fun p=>(relN t h p.1,p.2)}
def LSpec.pre(s:LSpec)(t:List VV)(h:zQa)(d:Items s.items):List VV×zQa:=Items.put s.items d (zZf s.junk t,h)
def LSpec.head(s:LSpec)(t:List VV)(h:zQa)(d:Items s.items):List VV×zQa:=
 ((s.pre t h d).1,zKm s.tails (s.pre t h d).1 (s.pre t h d).2 (s.pre t h d).2)
def nlOf(nl:List Nat)(id:Nat):Nat:=if nl.contains (1000000000+id)then 2 else if nl.contains (2000000000+id)then 3 else if nl.contains (3000000000+id)then 4 else if nl.contains (4000000000+id)then 5 else if nl.contains (5000000000+id)then 6 else if nl.contains (6000000000+id)then 7 else if nl.contains (8000000000+id)then 8 else if nl.contains (9000000000+id)then 9 else if nl.contains (11000000000+id)then 11 else if nl.contains (12000000000+id)then 12 else if nl.contains (13000000000+id)then 13 else if nl.contains id then 1 else 0
def yKq:Nat→Nat
 |0=>1
 |1=>0
 |2=>2
 |4=>4
 |5=>1
 |6=>1
 |7=>1
 |8=>1
 |9=>5
 |11=>0
 |12=>1
 |_=>3
def toY(nl:List Nat):X→List LSpec→Y×List LSpec
 | .skip,l=>(.skip,l)
 | .region id ops draw plan,l=>match l with
  |[]=>(.region id ops draw plan (nlOf nl id),[])
  | s::l'=>match decide (5000000≤s.id)with
   |true=>(match s.known with
    |true=>.join s (.region id ops draw plan (nlOf nl id))
    |false=>.region id ops draw plan (nlOf nl id),l')
   |false=>(.region id ops draw plan (nlOf nl id),s::l')
 | .seq a b,l=>let p:=toY nl a l;let q:=toY nl b p.2;(.seq p.1 q.1,q.2)
 | .cond c a b,l=>match l with
  |[]=>let p:=toY nl a l;let q:=toY nl b p.2;(.cond c p.1 q.1,q.2)
  | s::l'=>match decide (5000000≤s.id)with
   |true=>let p:=toY nl a l';let q:=toY nl b p.2;(match s.known with
    |true=>.join s (.cond c p.1 q.1)
    |false=>.cond c p.1 q.1,q.2)
   |false=>let p:=toY nl a l;let q:=toY nl b p.2;(.cond c p.1 q.1,q.2)
 | .block id b,l=>let p:=toY nl b l;(.block id p.1,p.2)
 | .loop b,l=>let p:=toY nl b l.tail;(.loop (l.headD default) p.1,p.2)
 | .exit id,l=>(.exit id,l)
 | .scope b,l=>let p:=toY nl b l;(.scope p.1,p.2)
 | .label i,l=>(.label i,l)
 | .goto i,l=>(.goto i,l)
 | .ret,l=>(.ret,l)
 | .rangeFunc g ps a b,l=>let p:=toY nl a l;let q:=toY nl b p.2;(.rangeFunc g ps p.1 q.1,q.2)
theorem toY_x(nl:List Nat):∀(x:X) (l:List LSpec),(toY nl x l).1.x=x:=by
 intro x;induction x with
 |seq a b iha ihb=>intro l;simp[toY,Y.x,iha,ihb]
 | region id ops draw plan=>
  intro l;simp only[toY];split
  ·rfl
  ·split
   ·simp only[]
    split<;>rfl
   ·rfl
 | cond c a b iha ihb=>
  intro l;simp only[toY];split
  ·simp[Y.x,iha,ihb]
  ·split
   ·simp only[]
    split<;>simp[Y.x,iha,ihb]
   ·simp[Y.x,iha,ihb]
 |block id b ih=>intro l;simp[toY,Y.x,ih]
 |loop b ih=>intro l;simp[toY,Y.x,ih]
 |scope b ih=>intro l;simp[toY,Y.x,ih]
 |rangeFunc g ps a b iha ihb=>intro l;simp[toY,Y.x,iha,ihb]
 |_=>intro l;rfl
def zWv(ops:Array Oper):List Nat:=ops.toList.flatMap fun o=>(match o.dst with|some d=>[d]|none=>[])
def LSpec.wXk(sp:LSpec):List Nat:=sp.toks.filterMap fun p=>if 8000000≤p.1&&p.1<9000000 then some (p.1-8000000)else none
def Y.writes:Y→List Nat
 | .region _ ops _ _ _=>zWv ops
 | .seq a b=>a.writes++b.writes
 | .cond _ a b=>a.writes++b.writes
 | .join _ b=>b.writes
 | .block _ b=>b.writes
 | .loop sp b=>b.writes++sp.wXk
 | .scope b=>b.writes
 |_=>[]
structure YFunc where
 ntmps:Nat
 results:List ResultVar
 body:Y
 frz:Bool:=false
 lay:Bool:=false
 layE:Bool:=false
 layM:Bool:=false
inductive OC where
 |plain (c:C)
 |own (c:C)
 |pair (a b:OC)
@[reducible] def OC.code:OC→C
  | .plain c=>c
  | .own c=>.list c
  | .pair a b=>.pair a.code b.code
def OC.free:OC→Bool
 | .plain c=>c.scalar
 | .own c=>c.scalar
 | .pair a b=>a.free&&b.free
@[reducible] def zX6:List OC→List C
  |[]=>[]
  |o::os=>o.code::zX6 os
def OC.xQ5:(o:OC)→El o.code→Nat→(List VV→List VObj→Option β)→Option β
 | .plain c,d,n,K=>K (valV c d).flat []
 | .own c,d,n,K=>if Z.EqN (Z.len d) 0 then K [.sl c d none false] []else K [.sref n 0 (Z.len d) (Z.len d) false c] [.vec c d]
 | .pair a b,d,n,K=>a.xQ5 d.1 n fun va oa=>b.xQ5 d.2 (n+oa.length) fun vb ob=>K (va++vb) (oa++ob)
def OC.valK:(o:OC)→El o.code→Nat→(VV→List VObj→Option β)→Option β
 | .plain c,d,n,K=>K (valV c d) []
 | .own c,d,n,K=>if Z.EqN (Z.len d) 0 then K (.sl c d none false) []else K (.sref n 0 (Z.len d) (Z.len d) false c) [.vec c d]
 | .pair a b,d,n,K=>a.xQ5 d.1 n fun va oa=>b.xQ5 d.2 (n+oa.length) fun vb ob=>K (.agg (va++vb)) (oa++ob)
def wKi:(os:List OC)→Els (zX6 os)→Nat→(List VV→List VObj→Option β)→Option β
 |[],_,n,K=>K [] []
 |[o],d,n,K=>o.valK d n fun v l=>K [v] l
 |o::p::os,d,n,K=>o.valK d.1 n fun v l=>wKi (p::os) d.2 (n+l.length) fun vs l'=>K (v::vs) (l++l')
structure OFn where
 args:List C
 ores:List OC
 fn:Els args→Option (Els (zX6 ores))
def OFn.pfn(o:OFn):PFn:={args:=o.args,res:=zX6 o.ores,fn:=o.fn}
def OC.outK:(o:OC)→List VV→zQa→(El o.code→List Nat→List Nat→Option β)→Option β
 | .plain c,vs,h,K=>match c.agg with
  |false=>match vs with
   |[v]=>if zK2 v=true then none else deF h c v fun d=>K d [] (if zWr v then v.blkS else [])
   |_=>none
  |true=>match deWs c vs with
   |some d=>K d [] []
   |none=>none
 | .own c,vs,h,K=>match vs with
  |[.sref b off len cap ex c']=>match h[b]? with
   |some (.vec c'' ds)=>if c'=c then(if hc:c''=c then(if Z.Le (Z.addN off len) (Z.len ds)then K (Z.seg (hc▸ds:List (El c)) off len) [b] []else none)else none)else none
   |_=>none
  |[.nsl]=>K ([]:List (El c)) [] []
  |[.sl c' ds _ _]=>if hc:c'=c then(if Z.EqN (Z.len ds) 0 then K (hc▸ds:List (El c)) [] []else none)else none
  | [.mix b c' d]=>match h[b]? with
   | some (.rows c'' dss)=>if hc':c'=c then(if hc:c''=c then(if Z.XW (hc▸dss:List (List (El c))) (hc'▸d:MixE (El c))then
     Z.bnd (Z.xget (hc▸dss:List (List (El c))) (hc'▸d:MixE (El c))) fun x=>K x [b] []else none)else none)else none
   |_=>none
  |_=>none
 | .pair a b,vs,h,K=>a.outK (vs.take a.code.cells) h fun x X B=>b.outK (vs.drop a.code.cells) h fun y Y D=>K (x,y) (X++Y) (B++D)
def OC.outV(o:OC)(v:VV)(h:zQa)(K:El o.code→List Nat→List Nat→Option β):Option β:=
 match o,K with
 | .plain c,K=>if zK2 v=true then none else deF h c v fun d=>K d [] (if zWr v then v.blkS else [])
 | .own c,K=>(OC.own c).outK [v] h K
 | .pair a b,K=>match v with
  | .agg vs=>(OC.pair a b).outK vs h K
  |_=>none
def xJz:(os:List OC)→List VV→zQa→(Els (zX6 os)→List Nat→List Nat→Option β)→Option β
 |[],vs,h,K=>match vs with
  |[]=>K () [] []
  |_=>none
 |[o],vs,h,K=>match vs with
  |[v]=>o.outV v h K
  |_=>none
 |o::p::os,vs,h,K=>match vs with
  |v::vs=>o.outV v h fun d X B=>xJz (p::os) vs h fun ds Y D=>K (d,ds) (X++Y) (B++D)
  |_=>none
def wWr:List Nat→Bool
 |[]=>true
 |x::l=>!l.contains x&&wWr l
def xJy:(os:List OC)→VV→zQa→(Els (zX6 os)→Option β)→Option β
 |[],v,h,K=>match v with
  | .tuple vs=>xJz [] vs h fun d X B=>if(wWr X&&X.all fun b=>!B.contains b)=true then K d else none
  |_=>none
 |[o],v,h,K=>xJz [o] [v] h fun d X B=>if(wWr X&&X.all fun b=>!B.contains b)=true then K d else none
 |o::p::os,v,h,K=>match v with
  | .tuple vs=>xJz (o::p::os) vs h fun d X B=>if(wWr X&&X.all fun b=>!B.contains b)=true then K d else none
  |_=>none
def vXh(h:zQa)(k:Nat)(c':C)(ds:List (El c'))(c:C)(K:List (El c)→Option β):Option β:=
 match h[k]? with
 |some (.tail u)=>if hc:c'=c then(if Z.EqN u (Z.len ds)then K (hc▸ds:List (El c))else none)else none
 |_=>none
def outT(os:List OC)(v:VV)(h:zQa)(K:Els (zX6 os)→Option β):Option β:=
 match os,K with
 |[.own c],K=>match v with
  | .sl c' ds (some k) full=>if c.scalar=true then vXh h k c' ds c K else none
  |v=>xJy [.own c] v h K
 |[.own c, .plain p],K=>match v with
  | .tuple [.sl c' ds (some k) full,v2]=>if(c.scalar&&p.scalar)=true then vXh h k c' ds c fun ds=>deF h p v2 fun d2=>K (ds,d2)else none
  |v=>xJy [.own c, .plain p] v h K
 |os,K=>xJy os v h K
theorem vJ6{A A' B B':Type}(h:A'=A)(k:B'=B):(A'×B')=(A×B):=by rw[h,k]
theorem zJ5(f:Nat→Nat):∀c:C,El (c.ren f)=El c
 | .bool=>rfl
 | .int _=>rfl
 | .str=>rfl
 | .list c=>congrArg List (zJ5 f c)
 | .unit=>rfl
 | .pair a b=>vJ6 (zJ5 f a) (zJ5 f b)
 | .arr _ c=>congrArg List (zJ5 f c)
 | .mix _ c=>congrArg MixE (zJ5 f c)
@[reducible] def renD(f:Nat→Nat)(c:C)(d:El c):El (c.ren f):=cast (zJ5 f c).symm d
@[reducible] def renB(f:Nat→Nat)(c:C)(d:El (c.ren f)):El c:=cast (zJ5 f c) d
theorem yXl(f:Nat→Nat)(c:C):List (List (El (c.ren f)))=List (List (El c)):=congrArg (fun α=>List (List α)) (zJ5 f c)
@[reducible] def C.ll(c:C):C:=.list (.list c)
@[reducible] def yJv:List C→List C
  |[]=>[]
  |c::cs=>c.ll::yJv cs
def valR(f:Nat→Nat):(cs:List C)→Els cs→List VV
 |[],_=>[]
 |[c],d=>[valV (c.ren f) (renD f c d)]
 |c::e::cs,d=>valV (c.ren f) (renD f c d.1)::valR f (e::cs) d.2
def yXc(f:Nat→Nat):(cs:List C)→Els (yJv cs)→List VObj
 |[],_=>[]
 |[c],d=>[.rows (c.ren f) (cast (yXl f c).symm d)]
 |c::e::cs,d=>.rows (c.ren f) (cast (yXl f c).symm d.1)::yXc f (e::cs) d.2
structure MFn where
 elt:C
 args:List C
 fn:Nat→List (El elt)→Els args→List (El elt)→Option (List (El elt))
 fn0:Els args→List (El elt)→Option (List (El elt))
structure RFn where
 args:List C
 objs:List C
 res:List C
 fn:Els args→Option (Els (yJv objs)×Els res)
def C.unif:C→C→List (Nat×Nat)→List (Nat×Nat)
 | .list a, .list b,l=>C.unif a b l
 | .pair a b, .pair c d,l=>C.unif b d (C.unif a c l)
 | .arr _ a, .arr _ b,l=>C.unif a b l
 | .mix i a, .mix b c,l=>C.unif a c (if l.any (fun p=>p.1==i)then l else(i,b)::l)
 |_,_,l=>l
mutual
def unifV:C→VV→List (Nat×Nat)→List (Nat×Nat)
 | .mix i a,v,l=>match v with
  | .mix b c _=>C.unif (.mix i a) (.mix b c) l
  |_=>l
 | .pair a b,v,l=>match v with
  | .agg vs=>vK2 (.pair a b) vs l
  |_=>l
 |_,_,l=>l
def vK2:C→List VV→List (Nat×Nat)→List (Nat×Nat)
 | .pair a b,vs,l=>vK2 b (vs.drop a.cells) (vK2 a (vs.take a.cells) l)
 | .mix i a,vs,l=>match vs with
  |[.mix b c _]=>C.unif (.mix i a) (.mix b c) l
  |_=>l
 |_,_,l=>l
end
def wJp:List C→List VV→List (Nat×Nat)→List (Nat×Nat)
 |c::cs,v::vs,l=>wJp cs vs (unifV c v l)
 |_,_,l=>l
def foundAt(l:List (Nat×Nat))(n i:Nat):Nat:=match l.find? (fun p=>p.1==i)with
 |some p=>p.2
 |none=>n
def vK3(h:zQa):Nat→List C→Nat→List (Nat×Nat)→List (Nat×Nat)
 |_,[],_,l=>l
 |n,c::cs,i,l=>vK3 h n cs (i+1) (match h[foundAt l n i]? with
  |some (.rows c' _)=>C.unif c c' l
  |_=>l)
def wKk{β:Type}(h:zQa)(f:Nat→Nat):(cs:List C)→Nat→(Els (yJv cs)→Option β)→Option β
 |[],i,K=>K ()
 |[c],i,K=>match h[f i]? with
  |some (.rows c' dss)=>if hc:c'=c.ren f then K (cast (yXl f c) (hc▸dss))else none
  |some _=>none
  |none=>K []
 |c::e::cs,i,K=>match h[f i]? with
  |some (.rows c' dss)=>if hc:c'=c.ren f then wKk h f (e::cs) (i+1) fun ds=>K (cast (yXl f c) (hc▸dss),ds)else none
  |some _=>none
  |none=>wKk h f (e::cs) (i+1) fun ds=>K (([]:List (List (El c))),ds)
def wKj{β:Type}(f:Nat→Nat):(cs:List C)→List VV→(Els cs→Option β)→Option β
 |[],vs,K=>match vs with
  |[]=>K ()
  |_=>none
 | [c],vs,K=>match vs with
  |[v]=>match deW (c.ren f) v with
   |some d=>K (renB f c d)
   |none=>none
  |_=>none
 | c::e::cs,vs,K=>match vs with
  |v::vs=>match deW (c.ren f) v with
   |some d=>wKj f (e::cs) vs fun ds=>K (renB f c d,ds)
   |none=>none
  |_=>none
def vJq(n:Nat)(v:VV):Option (List VV):=
 match n with
 |1=>some [v]
 |_=>match v with
  | .tuple vs=>some vs
  |_=>none
def outRF{β:Type}(objs res:List C)(vs:List VV)(h:zQa)(f:Nat→Nat)(K:Els (yJv objs)×Els res→Option β):Option β:=
 if((objs.all (C.inB objs.length)&&res.all (C.inB objs.length))&&((List.range objs.length).all fun i=>(List.range objs.length).all fun j=>decide (i=j)||f i !=f j||decide (h.length≤f i)))=true then
  wKk h f objs 0 fun ds=>wKj f res vs fun rs=>K (ds,rs)
 else none
def outR{β:Type}(objs res:List C)(v:VV)(h:zQa)(K:Els (yJv objs)×Els res→Option β):Option β:=
 match vJq res.length v with
 |some vs=>outRF objs res vs h (foundAt (vK3 h h.length objs 0 (wJp res vs [])) h.length) K
 |none=>none
structure VCfg where
 ty:Ty
 glob:Nat→Option VV
 pf:FuncId→Option PFn
 code:FuncId→Option YFunc
 own:FuncId→Bool:=fun _=>false
 opf:FuncId→Option OFn:=fun _=>none
 rpf:FuncId→Option RFn:=fun _=>none
 xpf:FuncId→Bool:=fun _=>false
 mpf:FuncId→Option MFn:=fun _=>none
abbrev KOut(β:Type):=Out→List VV→zQa→List Nat→Option β
abbrev KVal(β:Type):=VV→zQa→List Nat→Option β
abbrev xWi(β:Type):=Who→List VV→zQa→List Nat→KVal β→KVal β→Option β
def yXz:List Nat→zQa→zQa
 |[],h=>h
 |b::bs,h=>yXz bs (h.set b .dead)
def zQ5(args:List VV):List Nat:=args.flatMap fun v=>if zWr v then v.blkS else []
def zYm(c:VCfg)(f:FuncId)(args:List VV):Bool:=
 match c.mpf f,c.opf f,c.rpf f,c.pf f with
 |none,none,none,some p=>!c.own f&&(args.all (fun v=>!zWr v)||p.res.all C.scalar)
 |_,_,_,_=>false
def vYe(h:zQa):VV→Bool
 | .sref b _ _ _ _ _=>match h[b]? with
  |some (.cells vs)=>vs.any zXm
  |_=>false
 |_=>false
def deNl(h:zQa)(c:C):List VV→(List (El c)→Option β)→Option β
 |[],K=>K []
 |v::vs,K=>deF0 h c v fun d=>deNl h c vs fun ds=>K (d::ds)
def deN(h:zQa)(c:C)(v:VV)(K:El c→Option β):Option β:=
 match c,v,K with
 | .list c, .sref b off len _ _ c',K=>match h[b]? with
  |some (.cells vs)=>if c'=c then(if(c.isL&&c.pl)=true then(if off+len≤vs.length then deNl h c ((vs.drop off).take len) K else none)else none)else none
  |_=>none
 |_,_,_=>none
def wWt(h:zQa):(cs:List C)→List VV→(Els cs→Option β)→Option β
 |[],vs,K=>match vs with
  |[]=>K ()
  |_=>none
 |[c],vs,K=>match vs with
  |[v]=>if vYe h v=true then deN h c v K else deF h c v K
  |_=>none
 |c::e::cs,vs,K=>match vs with
  |v::vs=>if vYe h v=true then deN h c v fun d=>wWt h (e::cs) vs fun ds=>K (d,ds)else deF h c v fun d=>wWt h (e::cs) vs fun ds=>K (d,ds)
  |_=>none
def vWl(p:PFn)(args:List VV)(h:zQa)(m:List Nat)(K:KVal β):Option β:=
 if(p.res.all C.pl&&p.args.all C.pl)=false then none else if(p.res.all C.scalar&&args.any (vYe h))=true then wWt h p.args args fun d=>Z.bind (p.fn d) fun r=>K (oneV (zQx p.res r)) h m
 else if(args.all (fun v=>!zWr v)||p.res.all C.scalar)=true then
  deFs h p.args args fun d=>Z.bind (p.fn d) fun r=>K (oneV (zQx p.res r)) h m
 else if args.any zK2=true then none else deFs h p.args args fun d=>Z.bind (p.fn d) fun r=>K (oneV (zQx p.res r)) (yXz (zQ5 args) h) (zQ5 args++m)
def ownLen:(cs:List C)→Els cs→Option Nat
 |[.list _],d=>some (Z.len d)
 |_,_=>none
def uQg(o:OFn)(args:List VV)(h:zQa)(m:List Nat)(K:KVal β):Option β:=
 if(o.ores.all (fun x=>x.code.pl)&&o.args.all C.pl)=false then none else deFs h o.args args fun d=>Z.bind (o.fn d) fun r=>wKi o.ores r h.length fun vs os=>
  if(args.all (fun v=>!zWr v)||o.ores.all OC.free)=true then K (oneV vs) (h++os) m else if args.any zK2=true then none else K (oneV vs) (yXz (zQ5 args) h++os) (zQ5 args++m)
def C.names(q:Nat):C→Bool
 | .list c=>c.names q
 | .pair a b=>a.names q||b.names q
 | .arr _ c=>c.names q
 | .mix b c=>b==q||c.names q
 |_=>false
def VObj.names(q:Nat):VObj→Bool
 | .vec c _=>c.names q
 | .rows c _=>c.names q
 |_=>false
def yZa(h:zQa)(c:C):Option Nat:=(List.range h.length).find? fun q=>(match h[q]? with
 |some (.rows c' _)=>decide (c'=c)
 |_=>false)&&h.any (VObj.names q)
def OC.owns:OC→List C
 | .plain _=>[]
 | .own c=>[c]
 | .pair a b=>a.owns++b.owns
def vXj(h:zQa)(os:List OC):Bool:=os.any (fun o=>!o.owns.isEmpty)&&os.all fun o=>o.owns.all fun c=>(yZa h c).isSome
def OC.xQ2(Qs:C→Option Nat):(o:OC)→El o.code→zQa→(List VV→zQa→Nat→Option β)→Option β
 | .plain c,d,h,K=>K (valV c d).flat h 0
 | .own c,d,h,K=>match Qs c with
  |some Q=>match h[Q]? with
   |some (.rows c' dss)=>if hc:c'=c then Z.bnd (Z.app (hc▸dss:List (List (El c))) [d]) fun zs=>K [.mix Q c (Z.xrow (Z.len dss) d)] (h.set Q (.rows c zs)) 1 else none
   |_=>none
  |none=>none
 | .pair a b,d,h,K=>a.xQ2 Qs d.1 h fun va h i=>b.xQ2 Qs d.2 h fun vb h j=>K (va++vb) h (i+j)
def OC.valS(Qs:C→Option Nat)(o:OC)(d:El o.code)(h:zQa)(K:VV→zQa→Nat→Option β):Option β:=
 match o,d,K with
 | .plain c,d,K=>K (valV c d) h 0
 | .own c,d,K=>(OC.own c).xQ2 Qs d h fun vs h i=>match vs with
  |[v]=>K v h i
  |_=>none
 | .pair a b,d,K=>(OC.pair a b).xQ2 Qs d h fun vs h i=>K (.agg vs) h i
def wQt(Qs:C→Option Nat):(os:List OC)→Els (zX6 os)→zQa→(List VV→zQa→Nat→Option β)→Option β
 |[],_,h,K=>K [] h 0
 |[o],d,h,K=>o.valS Qs d h fun v h i=>K [v] h i
 |o::p::os,d,h,K=>o.valS Qs d.1 h fun v h i=>wQt Qs (p::os) d.2 h fun vs h j=>K (v::vs) h (i+j)
def uQe(o:OFn)(args:List VV)(h:zQa)(m:List Nat)(K:KVal β):Option β:=
 if(o.ores.all (fun x=>x.code.pl)&&o.args.all C.pl)=false then none else deFs h o.args args fun d=>Z.bind (o.fn d) fun r=>
  if o.ores.all OC.free=true then
   wQt (yZa h) o.ores r h fun vs h' k=>K (oneV vs) (h'++List.replicate k .dead) ((o.ores.flatMap OC.owns).filterMap (yZa h)++m)
  else if args.any zK2=true then none else
   wQt (yZa h) o.ores r (yXz (zQ5 args) h) fun vs h' k=>K (oneV vs) (h'++List.replicate k .dead) ((o.ores.flatMap OC.owns).filterMap (yZa h)++(zQ5 args++m))
def uQf(o:RFn)(args:List VV)(h:zQa)(m:List Nat)(K:KVal β):Option β:=
 if(o.args.all C.pl&&!(args.any zK2))=false then none else deFs h o.args args fun d=>Z.bind (o.fn d) fun r=>
  K (oneV (valR (fun i=>h.length+i) o.res r.2)) (yXz (zQ5 args) h++yXc (fun i=>h.length+i) o.objs r.1) (zQ5 args++m)
noncomputable def uQh(o:MFn)(args:List VV)(h:zQa)(m:List Nat)(K:KVal β):Option β:=
 match args with
 | .mix b c d::xs=>(match xs.getLast? with
  |some (.sref b2 off2 n2 cap2 ex2 c2)=>(match h[b]?,h[b2]? with
   | some (.rows c' dss),some (.vec c3 vs)=>if hcc:c=o.elt∧c'=o.elt∧c2=o.elt∧c3=o.elt∧(o.elt.pl&&o.args.all C.pl&&!(xs.dropLast.any zK2)&&!((zQ5 xs.dropLast).contains b)&&!((zQ5 xs.dropLast).contains b2))=true∧0<o.elt.cells then
     (if Z.XGr (hcc.2.1▸dss:List (List (El o.elt))) (hcc.1▸d:MixE (El o.elt))then(if Z.EqN (Z.len dss) 1 then(if Z.Le (Z.addN off2 n2) (Z.len vs)then
      deFs h o.args xs.dropLast fun ds=>Z.bind (Z.vWz (Z.xlen d) (fun k=>o.fn k (Z.xget (hcc.2.1▸dss:List (List (El o.elt))) (hcc.1▸d:MixE (El o.elt))) ds (Z.seg (hcc.2.2.2.1▸vs:List (El o.elt)) off2 n2)) (o.fn0 ds (Z.seg (hcc.2.2.2.1▸vs:List (El o.elt)) off2 n2))) fun l=>
       if Z.Lt (Z.xlen d) (Z.len l)then K (.mix b o.elt (Z.xnew 0 (Z.len l))) (((yXz (zQ5 xs.dropLast) h).set b2 .dead).set b (.rows o.elt [l])) (b::b2::(zQ5 xs.dropLast++m))else none
      else none)else none)else none)else none
   |_,_=>none)
  |_=>none)
 |_=>none
def ovlV(args:List VV)(h:zQa)(K:VV→Option β):Option β:=
 match args with
 |[.sref b _ _ _ _ _, .sref b2 _ _ _ _ _]=>(match h[b2]? with
  |some (.vec c ds)=>if b≠b2∧zZv h b=true∧c.cells≠0 then(if Z.EqN (Z.len ds) 0 then none else K (.bool false))else none
  |_=>none)
 |_=>none
noncomputable def uQd(c:VCfg)(call:xWi β)(f:FuncId)(args:List VV)(h:zQa)(m:List Nat)(K KP:KVal β):Option β:=
 match c.xpf f with
 |true=>ovlV args h fun v=>K v h m
 |false=>match c.mpf f with
 |some o=>uQh o args h m K
 |none=>match c.opf f with
 |some o=>match vXj h o.ores with
  |true=>uQe o args h m K
  |false=>uQg o args h m K
 |none=>match c.rpf f with
 |some o=>uQf o args h m K
 |none=>match c.pf f with
 | some p=>match c.own f with
  |true=>deFs h p.args args fun d=>match ownLen p.args d with
   |some n=>if Z.EqN n 0 then vWl p args h m K else call (.fn f) args h m K KP
   |none=>none
  |false=>vWl p args h m K
 |none=>call (.fn f) args h m K KP
def yXq(h:zQa):Option VObj→zQa
 |some b=>h++[b]
 |none=>h
def farV(ρ:Operand→VV)(lo ro:Op):Bool:=
 match lo,ro with
 | .store _ a _, .load _ a'=>match ρ a,ρ a' with
  | .ptr b _, .ptr b' _=>b !=b'
  |_,_=>false
 |_,_=>false
def farsV(ops:Array Oper)(ρ:Operand→VV)(lo:Op)(rs:List Nat):Bool:=rs.all fun r=>match ops[r]? with
 |some o=>farV ρ lo o.op
 |none=>false
def yYp(n:Nat)(touched:List Nat)(v:VV):Bool:=
 match v with
 | .ptr b _=>decide (b<n)&&!touched.contains b
 | .ptrE b _ _=>decide (b<n)&&!touched.contains b
 | .ptrF b _ _ _=>decide (b<n)&&!touched.contains b
 | .xptr b _ _ _ _=>decide (b<n)&&!touched.contains b
 | .rop _=>true
 |_=>false
def xZg(n:Nat)(touched:List Nat)(v:VV):Bool:=
 match v with
 | .ptr b _=>decide (b<n)&&!touched.contains b
 | .sref b _ _ _ _ _=>decide (b<n)&&!touched.contains b
 | .mix b _ _=>decide (b<n)&&!touched.contains b
 | .rop _=>true
 | .sl _ _ _ _=>true
 | .nsl=>true
 |_=>false
def wJ0(x y:VV):Bool:=
 match x with
 | .int _ _=>match y with
  | .int _ _=>true
  |_=>false
 | .str _=>match y with
  | .str _=>true
  |_=>false
 |_=>false
def wJz(ρ:Operand→VV)(cl:Call):Bool:=
 match cl.callee with
 | .builtin .len=>match cl.args.toList with
  |[x]=>match ρ x with
   | .nsl=>true
   | .sl _ _ _ _=>true
   |_=>false
  |_=>false
 |_=>false
def wQf(n:Nat)(touched:List Nat)(ρ:Operand→VV)(o:Op):Bool:=
 match o with
 | .load _ a=>yYp n touched (ρ a)
 | .fieldAddr _ x _=>yYp n touched (ρ x)
 | .nilCheck x=>yYp n touched (ρ x)
 | .indexAddr _ x _=>xZg n touched (ρ x)
 | .slice _ x _ _ _=>xZg n touched (ρ x)
 | .binOp _ _ x y _=>wJ0 (ρ x) (ρ y)
 | .call cl=>wJz ρ cl
 | .move _| .assign _| .pick _ _ _| .build _ _| .unOp _ _ _| .field _ _ _| .index _ _ _| .extract _ _=>true
 |_=>false
def xZf(ops:Array Oper)(ρ:Operand→VV)(n:Nat)(touched:List Nat)(rs:List Nat):Bool:=rs.all fun r=>match ops[r]? with
 |some o=>wQf n touched ρ o.op
 |none=>false
def fgtV(draw:Bool)(nl:Nat)(v:VV):VV:=match draw with
 |true=>v
 | false=>match nl with
  |7=>(match v with
   | .sl c ds _ _=>.sl c ds none false
   |v=>v)
  |_=>v
def frzB(v:VV)(h:zQa)(K:VV→zQa→Option β):Option β:=
 match v with
 | .sref b off len cap ex c=>(match c.pl with
  |true=>deF0 h (.list c) (.sref b off len cap ex c) fun d=>K (valV (.list c) d) (yXz [b] h)
  |false=>none)
 |_=>none
def getP(vs:List VV)(p:Nat×Option Nat):Option VV:=match p.2 with
 |none=>vs[p.1]?
 |some j=>match vs[p.1]? with
  |some (.agg ws)=>ws[j]?
  |_=>none
def setP(vs:List VV)(p:Nat×Option Nat)(v:VV):List VV:=match p.2 with
 |none=>vs.set p.1 v
 |some j=>match vs[p.1]? with
  |some (.agg ws)=>vs.set p.1 (.agg (ws.set j v))
  |_=>vs
def wJ3(e:Bool)(i:Nat):Nat→List VV→List (Nat×Option Nat)
 |_,[]=>[]
 | j,w::ws=>match w with
  | .sref _ _ _ _ _ _=>(i,some j)::wJ3 e i (j+1) ws
  | .sl c _ _ _=>(match e&&!c.yYu with
   |false=>wJ3 e i (j+1) ws
   |true=>(i,some j)::wJ3 e i (j+1) ws)
  |_=>wJ3 e i (j+1) ws
def wJ2(e:Bool):Nat→List VV→List (Nat×Option Nat)
 |_,[]=>[]
 |i,v::vs=>match v with
  | .sref _ _ _ _ _ _=>(i,none)::wJ2 e (i+1) vs
  | .agg ws=>wJ3 e i 0 ws++wJ2 e (i+1) vs
  |_=>wJ2 e (i+1) vs
def mixA(i:Nat):Nat→List VV→List (Nat×Option Nat)
 |_,[]=>[]
 |j,w::ws=>match w with
  | .mix _ _ _=>(i,some j)::mixA i (j+1) ws
  |_=>mixA i (j+1) ws
def mixP:Nat→List VV→List (Nat×Option Nat)
 |_,[]=>[]
 |i,v::vs=>match v with
  | .mix _ _ _=>(i,none)::mixP (i+1) vs
  | .agg ws=>mixA i 0 ws++mixP (i+1) vs
  |_=>mixP (i+1) vs
def vX6(e m:Bool)(vs:List VV):List (Nat×Option Nat):=match m with
 |true=>wJ2 e 0 vs++mixP 0 vs
 |false=>wJ2 e 0 vs
def sinkL(h:zQa)(c:C):Option Nat:=match yZa h c with
 |some q=>some q
 |none=>(List.range h.length).find? fun q=>match h[q]? with
  |some (.rows c' _)=>decide (c'=c)
  |_=>false
def layP(p:Nat×Option Nat)(vs:List VV)(h:zQa)(m:List Nat)(K:List VV→zQa→List Nat→Option β):Option β:=
 match getP vs p with
 |some (.sref b off len cap ex c)=>match h[b]? with
  | some (.vec c' ds)=>if hc:c'.cells=c.cells then(if Z.EqN off 0 then(if Z.EqN len (Z.len ds)then(match sinkL h c' with
    |some Q=>match h[Q]? with
     |some (.rows c2 dss)=>if h2:c2=c' then Z.bnd (Z.app (h2▸dss:List (List (El c'))) [ds]) fun zs=>K (setP vs p (.mix Q c' (Z.xnew (Z.len dss) len))) ((h.set b .dead).set Q (.rows c' zs)) (b::Q::m)else none
     |_=>none
    |none=>K (setP vs p (.mix h.length c' (Z.xnew 0 len))) (h.set b .dead++[.rows c' [ds]]) (b::m))else none)else none)else none
  |_=>K vs h m
 |some (.sl c ds none false)=>if Z.EqN (Z.len ds) 0 then K (setP vs p (.sl (.arr c.cells .bool) [] none false)) h m else none
 | some (.mix b c d)=>match h[b]? with
  | some (.rows c' dss)=>(match yZa h c' with
   |some Q=>match h[Q]? with
    |some (.rows c2 dss2)=>if h2:c2=c∧c'=c∧b≠Q then Z.bnd (Z.app (h2.1▸dss2:List (List (El c))) (h2.2.1▸dss:List (List (El c)))) fun zs=>K (setP vs p (.mix Q c (Z.wW8 (Z.len dss2) d))) ((h.set b .dead).set Q (.rows c zs)) (b::Q::m)else K vs h m
    |_=>K vs h m
   |none=>K vs h m)
  |_=>K vs h m
 |_=>K vs h m
def layL:List (Nat×Option Nat)→List VV→zQa→List Nat→(List VV→zQa→List Nat→Option β)→Option β
 |[],vs,h,m,K=>K vs h m
 |p::l,vs,h,m,K=>layP p vs h m fun vs h m=>layL l vs h m K
def numV(v:VV):Bool:=match v with
 | .sref _ _ _ _ _ c=>match c with
  | .int _=>true
  |_=>false
 | .sl c _ _ _=>match c with
  | .int _=>true
  |_=>false
 |_=>false
def layQ(nl:Nat)(n:Nat)(d:Option Tmp)(v:VV)(h:zQa)(m:List Nat)(K:VV→zQa→List Nat→Option β):Option β:=match nl with
 | 11=>match d with
  | some i=>match Nat.blt i n with
   | true=>(match numV v with
    |true=>layP (0,none) [v] h m fun vs h m=>(match vs with
     |[v2]=>K v2 h m
     |_=>none)
    |false=>K v h m)
   |false=>none
  |none=>K v h m
 |_=>K v h m
def xJn(nl:Nat)(c:VCfg):VCfg:=match nl with
 |8=>{c with opf:=fun _=>none,rpf:=fun _=>none}
 |_=>c
noncomputable def zYx(c:VCfg)(call:xWi β)(nl:Nat)(ops:Array Oper)(draw:Bool)(KP:KVal β):List (Nat×List Nat)→List VV→zQa→List Nat→(List VV→zQa→List Nat→Option β)→Option β
 |[],t,h,m,K=>K t h m
 | (i,rs)::l,t,h,m,K=>match ops[i]? with
  |none=>if draw then none else zYx c call nl ops draw KP l t h m K
  | some o=>xY7 ops t o fun t w=>match w with
   |false=>zYx c call nl ops draw KP l (putV t o.dst .undef) h m K
   | true=>match xJ1 c.ty o.op with
    | .mkl=>if draw then none else match nl with
     |5=>vYi c.ty h (evV c.glob t) o.op fun v h'=>zYx c call nl ops draw KP l (putV t o.dst v) h' m K
     |13=>vYh c.ty h (evV c.glob t) o.op fun v h'=>zYx c call nl ops draw KP l (putV t o.dst v) h' m K
     |_=>vYg c.ty h (evV c.glob t) o.op fun v h'=>layQ (nl-1) t.length o.dst v h' m fun v h' m=>zYx c call nl ops draw KP l (putV t o.dst v) h' m K
    | .quiet=>match draw with
     |true=>opVQ c.ty h (evV c.glob t) o.op fun v new=>zYx c call nl ops draw KP l (putV t o.dst v) (yXq h new) m K
     |false=>opVQ c.ty h (evV c.glob t) o.op fun v new=>layQ (nl-1) t.length o.dst v (yXq h new) m fun v h' m=>zYx c call nl ops draw KP l (putV t o.dst v) h' m K
    | .bsl=>match draw with
     |true=>opVQ c.ty h (evV c.glob t) o.op fun v new=>zYx c call nl ops draw KP l (putV t o.dst v) (yXq h new) m K
     |false=>(match nl with
      |6=>wZu c.ty h (evV c.glob t) o.op fun v h'=>frzB v h' fun v2 h2=>zYx c call nl ops draw KP l (putV t o.dst v2) h2 (v.blk++m) K
      |_=>wZu c.ty h (evV c.glob t) o.op fun v h'=>zYx c call nl ops draw KP l (putV t o.dst v) h' m K)
    | .loud=>if draw&&!(farsV ops (evV c.glob t) o.op rs)&&!(xZf ops (evV c.glob t) h.length (zK1 h (evV c.glob t) o.op) rs)then none else
     match draw with
     |true=>opVL (yKq nl) c.ty h (evV c.glob t) o.op fun v h'=>zYx c call nl ops draw KP l (putV t o.dst (fgtV draw nl v)) h' (zK1 h (evV c.glob t) o.op++m) K
     |false=>opVL (yKq nl) c.ty h (evV c.glob t) o.op fun v h'=>layQ nl t.length o.dst (fgtV draw nl v) h' (zK1 h (evV c.glob t) o.op++m) fun v h' m=>zYx c call nl ops draw KP l (putV t o.dst v) h' m K
    | .call f=>match o.op with
     | .call cl=>match evV c.glob t f with
      | .func g first captured=>
       uQd (xJn nl c) call g (first++cl.args.toList.map (evV c.glob t)++captured) h [] (fun v h' m'=>
        if draw&&!rs.isEmpty&&!zYm (xJn nl c) g (first++cl.args.toList.map (evV c.glob t)++captured)&&!(xZf ops (evV c.glob t) h.length m' rs)then none else
        zYx c call nl ops draw KP l (putV t o.dst v) h' (m'++m) K) fun v h' m'=>(match draw with
        |true=>none
        |false=>KP v h' (m'++m))
      | .yield y=>if draw&&!rs.isEmpty then none else
       call (.yl y) (cl.args.toList.map (evV c.glob t)) h m (fun v h' m'=>zYx c call nl ops draw KP l (putV t o.dst v) h' m' K) fun _ _ _=>none
      |_=>none
     |_=>none
    | .pan x=>match draw with
     |true=>none
     |false=>(match evV c.glob t x with
      | .ifc u v=>KP (.ifc u v) h m
      |_=>none)
def known(x:Operand)(t:List VV)(b:Bool):List VV:=
 match x with
 | .tmp i=>t.set i (.bool b)
 |_=>t
def frzL:List (Nat×Nat)→List VV→zQa→List Nat→(zQa→List Nat→Option β)→Option β
 |[],t,h,m,K=>K h m
 |p::l,t,h,m,K=>frzC p.1 p.2 t h m fun h m=>frzL l t h m K
noncomputable def vYj(sp:LSpec)(id:Nat)(writes:List Nat)(body:List VV→zQa→KOut β→Option β)(t1:List VV)(h1:zQa)(m:List Nat)(K:KOut β):Option β:=
 match Items.get sp.items t1 h1 with
 |none=>Z.zZ3 (id*8+2) t1 h1 []
 | some d0=>yQs sp.tails (sp.pre t1 h1 d0).1 (sp.pre t1 h1 d0).2 h1 (
  if (writes.all (fun i=>sp.slots.contains i)&&sp.slots.all (fun i=>writes.contains i))=true then
   Z.loop (fun d k=>body (sp.head t1 h1 d).1 (sp.head t1 h1 d).2 fun o t' h' m'=>match o with
     | .normal=>frzL sp.frz t' h' m' fun h' m'=>if(m'.all fun b=>decide (h1.length≤b)||sp.blks.contains b)=true then
       (match Items.get sp.items t' h' with
       |some d'=>yQs sp.tails (sp.pre t1 h1 d').1 (sp.pre t1 h1 d').2 h' (if(VV.inBs h1.length (sp.head t1 h1 d').1&&(sp.head t1 h1 d').2.all (VObj.inB h1.length))=true then k d' else Z.zZ3 (id*8+5) t' h' m')
       |none=>Z.zZ3 (id*8+3) t' h' m')
      else Z.zZ3 (id*8+4) t' h' ((100000000+h1.length)::m')
     |o=>K o t' h' (m'++sp.blks++m)) d0
  else Z.zZ3 (id*8+6) t1 h1 [])
noncomputable def vYk(sp:LSpec)(writes:List Nat)(body:List VV→zQa→KOut β→Option β)(t:List VV)(h:zQa)(m:List Nat)(K:KOut β):Option β:=
 if(sp.toks.all fun p=>(decide (2000000≤p.1)&&decide (p.1<8000000))||decide (9000000≤p.1)||writes.contains (if 8000000≤p.1 then p.1-8000000 else p.1))=true then zXo sp.id sp.toks t h m fun t1 h1 m1=>vYj (sp.rel t1 h1) sp.id writes body t1 h1 m1 K
 else Z.zZ3 (sp.id*8+7) t h m
noncomputable def vYn(sp:LSpec)(writes:List Nat)(body:List VV→zQa→KOut β→Option β)(t:List VV)(h:zQa)(m:List Nat)(K:KOut β):Option β:=
 if (writes.all (fun i=>sp.slots.contains i)&&sp.slots.all (fun i=>writes.contains i)&&sp.blks.isEmpty)=true then
  Z.join (fun k=>body t h fun o t' h' m'=>match o with
   | .normal=>match m' with
    |[]=>match Items.get sp.items t' h' with
     |some d=>yQs sp.tails (sp.pre t h d).1 (sp.pre t h d).2 h' (if(VV.inBs h.length (sp.head t h d).1&&(sp.head t h d).2.all (VObj.inB h.length))=true then k d else Z.zZ3 (sp.id*8+5) t' h' m')
     |none=>Z.zZ3 (sp.id*8+3) t' h' m'
    |_::_=>Z.zZ3 (sp.id*8+4) t' h' m'
   |o=>K o t' h' (m'++m)) (fun d=>K .normal (sp.head t h d).1 (sp.head t h d).2 m)
 else Z.zZ3 (sp.id*8+6) t h []
def wWb(rd:Option Nat)(h:zQa):Bool:=
 match rd with
 |none=>true
 |some b=>match h[b]? with
  |some (.loop _ _ _ _ _ _ _)=>true
  |_=>false
def vJ4:Option Jump→Out
 |none=>.normal
 |some j=>j.out
def xKp(l:Nat)(t:List VV)(m:List Nat)(h:zQa)(K:KOut β):Option β:=
 match h[l]? with
 |some (.loop f ts ps a b st pend)=>match st with
  | .busy=>none
  |_=>K (vJ4 pend) t (h.set l (.loop f ts ps a b .exhausted pend)) m
 |_=>none
noncomputable def vx(c:VCfg)(call:xWi β)(fn:FuncId)(rd:Option Nat):Y→List VV→zQa→List Nat→KOut β→Option β
 | .skip,t,h,m,K=>K .normal t h m
 | .label _,t,h,m,K=>K .normal t h m
 | .region _ ops draw plan nl,t,h,m,K=>zYx c call nl ops draw (fun v h' m'=>K (.panic v.cv) (zZf (zWv ops) t) h' m') (wXx ops draw plan) t h m fun t h m=>K .normal t h m
 | .seq a b,t,h,m,K=>vx c call fn rd a t h m fun o t h m=>match o with
  | .normal=>vx c call fn rd b t h m K
  |o=>K o t h m
 | .cond x a b,t,h,m,K=>match evV c.glob t x with
  | .bool q=>match q with
   |true=>vx c call fn rd a (known x t true) h m K
   |false=>vx c call fn rd b (known x t false) h m K
  |_=>none
 | .block id b,t,h,m,K=>vx c call fn rd b t h m fun o t h m=>match o with
  | .exit id'=>if id'=id then K .normal t h m else K (.exit id') t h m
  |o=>K o t h m
 | .loop sp0 b,t,h,m,K=>if(!sp0.known)=true then Z.zZ3 (sp0.id*8) t h []else vYk sp0 (b.writes++sp0.wXk) (fun t h K=>vx c call fn rd b t h [] K) t h m K
 | .join sp b,t,h,m,K=>vYn sp b.writes (fun t h K=>vx c call fn rd b t h [] K) t h m K
 | .exit id,t,h,m,K=>K (.exit id) t h m
 | .goto l,t,h,m,K=>K (.goto l) t h m
 | .ret,t,h,m,K=>K .ret t h m
 | .scope b,t,h,m,K=>vx c call fn rd b t h m fun o t h m=>match o with
  | .goto l=>none
  |o=>K o t h m
 | .rangeFunc g ps a b,t,h,m,K=>if wWb rd h=true then match evV c.glob t g with
  | .func gf first captured=>call (.fn gf) (first++[.yield h.length]++captured) (h++[.loop fn t ps a b .ready none]) m (fun _ h1 m1=>xKp h.length t m1 h1 K) fun _ _ _=>none
  |_=>none
  else none
def Y.hasL(l:Nat):Y→Bool
 | .seq a b=>a.hasL l||b.hasL l
 | .label l'=>l'==l
 | .join _ b=>b.hasL l
 |_=>false
noncomputable def yYh(c:VCfg)(call:xWi β)(fn:FuncId)(rd:Option Nat)(l:Nat):Y→List VV→zQa→List Nat→KOut β→Option β
 | .seq a b,t,h,m,K=>match a.hasL l with
  |true=>yYh c call fn rd l a t h m fun o t h m=>match o with
   | .normal=>vx c call fn rd b t h m K
   |o=>K o t h m
  |false=>yYh c call fn rd l b t h m K
 | .label l',t,h,m,K=>if l'=l then K .normal t h m else none
 |_,_,_,_,_=>none
noncomputable def vxB(c:VCfg)(call:xWi β)(fn:FuncId)(rd:Option Nat):Y→List VV→zQa→List Nat→KOut β→Option β
 | .seq a b,t,h,m,K=>vx c call fn rd a t h m fun o t h m=>match o with
  | .normal=>vxB c call fn rd b t h m K
  |o=>K o t h m
 | .scope b,t,h,m,K=>vx c call fn rd b t h m fun o t h m=>match o with
  | .goto l=>match b.hasL l with
   |true=>yYh c call fn rd l b t h m fun o t h m=>match o with
    | .goto _=>none
    |o=>K o t h m
   |false=>none
  |o=>K o t h m
 |y,t,h,m,K=>vx c call fn rd y t h m K
def dfrY:Y→Option (Nat×Array Oper×Nat×Oper)
 | .region id ops draw plan nl=>match draw with
  |true=>none
  | false=>match ops[ops.size-1]? with
   |some o=>match o.op,o.guard with
    | .defer _,none=>some (id,ops,nl,o)
    |_,_=>none
   |none=>none
 |_=>none
def vQ3(ρ:Operand→VV)(o:Op):Option (FuncId×List VV):=
 match o with
 | .defer cl=>match cl.callee with
  | .value f=>match ρ f with
   | .func g first captured=>some (g,first++cl.args.toList.map ρ++captured)
   |_=>none
  |_=>none
 |_=>none
noncomputable def runV(c:VCfg)(ops:Array Oper):List Nat→List VV→zQa→List Nat→(List VV→zQa→List Nat→Option β)→Option β
 |[],t,h,m,K=>K t h m
 | i::l,t,h,m,K=>match ops[i]? with
  |none=>none
  | some o=>match o.guard with
   |some _=>none
   |none=>match xJ1 c.ty o.op with
    | .quiet=>opVQ c.ty h (evV c.glob t) o.op fun v new=>runV c ops l (putV t o.dst v) (yXq h new) m K
    | .loud=>opVL 1 c.ty h (evV c.glob t) o.op fun v h'=>runV c ops l (putV t o.dst v) h' (zK1 h (evV c.glob t) o.op++m) K
    |_=>none
noncomputable def sV(c:VCfg):Y→List VV→zQa→List Nat→(List VV→zQa→List Nat→Option β)→Option β
 | .skip,t,h,m,K=>K t h m
 | .region _ ops draw _ _,t,h,m,K=>match draw with
  |true=>none
  |false=>runV c ops (List.range ops.size) t h m K
 | .seq a b,t,h,m,K=>sV c a t h m fun t h m=>sV c b t h m K
 | .cond x a b,t,h,m,K=>match evV c.glob t x with
  | .bool q=>match q with
   |true=>sV c a t h m K
   |false=>sV c b t h m K
  |_=>none
 |_,_,_,_,_=>none
def panV:Option CV→Option VV
 |none=>some .niliface
 |some v=>match v with
  | .iface t x=>some (.ifc t x)
  |_=>none
noncomputable def dfrV(c:VCfg)(g:FuncId)(args:List VV)(pan:Option CV)(h:zQa)(m:List Nat)(K:zQa→List Nat→Option β):Option β:=
 match c.code g with
 |none=>none
 | some gd=>match gd.results with
  |_::_=>none
  | []=>match gd.body with
   | .seq (.region _ ops false _ _) y=>(match List.range ops.size with
    | 0::l=>(match ops[0]?,panV pan with
     |some o0,some pv=>(match isRecover o0.op,o0.guard with
      |true,none=>runV c ops l (putV (args++List.replicate (gd.ntmps-args.length) .undef) o0.dst pv) h m fun t h m=>sV c y t h m fun _ h m=>K h m
      |_,_=>none)
     |_,_=>none)
    |_=>none)
   |_=>none
noncomputable def vxBD(c:VCfg)(call:xWi β)(fn:FuncId):Y→List VV→zQa→List Nat→(List VV→zQa→List Nat→Option β)→Option β
 | .seq a b,t,h,m,K=>match dfrY a with
  | some q=>zYx c call q.2.2.1 q.2.1 false (fun _ _ _=>none) ((List.range (q.2.1.size-1)).map fun i=>(i,[])) t h m fun t h m=>(match vQ3 (evV c.glob t) q.2.2.2.op with
   |some (g,args)=>vx c call fn none b (putV t q.2.2.2.dst .undef) h m fun o t h m=>(match o with
    | .normal=>dfrV c g args none h m fun h m=>K t h m
    | .ret=>dfrV c g args none h m fun h m=>K t h m
    | .panic v=>dfrV c g args (some v) h m fun h m=>K t h m
    |_=>none)
   |none=>none)
  |none=>vx c call fn none a t h m fun o t h m=>match o with
   | .normal=>vxBD c call fn b t h m K
   | .ret=>K t h m
   |_=>none
 |_,_,_,_,_=>none
def Y.defers:Y→Bool
 | .seq a b=>match dfrY a with
  |some _=>true
  |none=>b.defers
 |_=>false
def wQn(ty:Ty)(h:zQa)(t:List VV)(r:ResultVar)(K:VV→Option β):Option β:=
 match r with
 | .tmp i=>K (t.getD i .undef)
 | .cell a ty'=>vX5 ty h ty' (t.getD a .undef) K
def zKn(ty:Ty)(h:zQa)(t:List VV):List ResultVar→(List VV→Option β)→Option β
 |[],K=>K []
 |r::rs,K=>wQn ty h t r fun v=>zKn ty h t rs fun vs=>K (v::vs)
def endV(l:Nat)(f:FuncId)(ts:List VV)(ps:Array Tmp)(a b:Y)(o:Out)(h:zQa)(m:List Nat)(K:KVal β):Option β:=
 match o.jump with
 |some j=>match j with
  |none=>K (.bool true) (h.set l (.loop f ts ps a b .ready none)) m
  |some j=>K (.bool false) (h.set l (.loop f ts ps a b .done (some j))) (l::m)
 |none=>none
def frzR(t:List VV)(h:zQa)(rs:List ResultVar):List (Nat×Nat):=rs.flatMap fun r=>match r with
 | .cell a _=>(match t.getD a .undef with
  | .ptr k _=>(match h[k]? with
   |some (.cells vs)=>(List.range vs.length).map fun j=>(k,j)
   |_=>[])
  |_=>[])
 |_=>[]
noncomputable def vxF(c:VCfg):Nat→xWi β
 |0=>fun _ _ _ _ _ _=>none
 | n+1=>fun w args h m K KP=>match w with
  | .yl l=>match h[l]? with
   | some (.loop f ts ps a b st pend)=>match st,pend with
    | .ready,none=>if args.length=ps.size then
      vx c (vxF c n) f (some l) a ((ps.toList.zip args).foldl (fun T p=>T.set p.1 p.2) ts) h [] fun o t1 h1 m1=>match o with
       | .normal=>if m1.contains l=true then none else
        vx c (vxF c n) f (some l) b t1 (h1.set l (.loop f ts ps a b .busy none)) [] fun o _ h3 m3=>
         if m3.contains l=true then none else endV l f ts ps a b o h3 (m3++m1++m) K
       |_=>none
     else none
    |_,_=>none
   |_=>none
  | .fn f=>match c.code f with
  |none=>none
  |some fd=>match fd.body.defers with
  |true=>vxBD c (vxF c n) f fd.body (args++List.replicate (fd.ntmps-args.length) .undef) h m fun t h m=>zKn c.ty h t fd.results fun vs=>layL (if fd.lay then vX6 fd.layE fd.layM vs else []) vs h m fun vs h m=>K (oneV vs) h m
  | false=>vxB c (vxF c n) f none fd.body (args++List.replicate (fd.ntmps-args.length) .undef) h m fun o t h m=>match o with
   | .normal=>frzL (if fd.frz then frzR t h fd.results else []) t h m fun h m=>zKn c.ty h t fd.results fun vs=>layL (if fd.lay then vX6 fd.layE fd.layM vs else []) vs h m fun vs h m=>K (oneV vs) h m
   | .ret=>frzL (if fd.frz then frzR t h fd.results else []) t h m fun h m=>zKn c.ty h t fd.results fun vs=>layL (if fd.lay then vX6 fd.layE fd.layM vs else []) vs h m fun vs h m=>K (oneV vs) h m
   | .panic v=>(match v with
    | .iface u x=>KP (.ifc u x) h m
    |_=>none)
   |_=>none
end
def xJx{β:Type}:(rs:List C)→VV→zQa→(Els rs→Option β)→Option β
 |[],v,h,K=>match v with
  | .tuple vs=>deFs h [] vs K
  |_=>none
 |[c],v,h,K=>deF h c v K
 |a::b::cs,v,h,K=>match v with
  | .tuple vs=>deFs h (a::b::cs) vs K
  |_=>none
noncomputable def wJf(c:VCfg)(n:Nat)(f:FuncId)(args:List C)(ores:List OC)(d:Els args):Option (Els (zX6 ores)):=
 if(ores.all fun x=>x.code.pl)=false then none else vxF c n (.fn f) (zQx args d) [] [] (fun v h _=>outT ores v h some) fun _ _ _=>none
noncomputable def wJe(c:VCfg)(n:Nat)(f:FuncId)(args objs res:List C)(d:Els args):Option (Els (yJv objs)×Els res):=
 vxF c n (.fn f) (zQx args d) [] [] (fun v h _=>outR objs res v h some) fun _ _ _=>none
noncomputable def vKy(c:VCfg)(n:Nat)(f:FuncId)(args res:List C)(d:Els args):Option (Els res):=
 vxF c n (.fn f) (zQx args d) [] [] (fun v h _=>xJx res v h some) fun _ _ _=>none
end Go.Eng
/- Each operation of the evaluator over typed values is that of the clean world. -/
namespace Go.Eng
set_option linter.unusedVariables false
section
variable {β:Type} {ty:Ty} {h:zQa} {r:β}
theorem zXc{x:Option CV}{c:CV}(h:x=some c):rdC x=some (c,none):=by rw[h];rfl
theorem xZy{x:Option (CV×HObj)}{p:CV×HObj}(h:x=some p):mkC x=some (p.1,some p.2):=by rw[h];rfl
theorem wY6{gt:Bool}{ρ:Operand→VV}{ρc:Operand→CV}(hρ:∀x,ρc x=(ρ x).cv){x:Operand}{xs:List Operand}{v:VV}(h:maxV gt (ρ x) (xs.map ρ)=some v):maxC gt (ρc x) (xs.map ρc)=some v.cv:=by
 have:=wY5 h;rw[Jk]at this;rw[hρ x,Jo (fun y _=>hρ y)]
 exact this
theorem vWj{ρ:Operand→VV}{ρc:Operand→CV}(hρ:∀x,ρc x=(ρ x).cv){cl:Call}{K:VV→Option β}(he:vWk ty h ρ cl K=some r):∃v,K v=some r∧yWp ty (hc h) ρc cl=some v.cv:=by
 unfold vWk at he;unfold yWp;split at he<;>(try (simp at he;done))
 ·rename_i h1
  split at he<;>(try (simp at he;done))
  rename_i x t h2 h3;obtain⟨v,k1,k2⟩:=vYl he;exact⟨v,k1,by simp only[h1,h2,h3,hρ];exact k2⟩
 ·rename_i h1
  split at he<;>(try (simp at he;done))
  rename_i x t h2 h3;obtain⟨v,k1,k2⟩:=uQb he;exact⟨v,k1,by simp only[h1,h2,h3,hρ];exact k2⟩
 ·rename_i h1
  split at he<;>(try (simp at he;done))
  rename_i x xs h2;split at he<;>(try (simp at he;done))
  rename_i v hv;exact⟨v,he,by simp only[h1,h2];exact wY6 hρ hv⟩
 ·rename_i h1
  split at he<;>(try (simp at he;done))
  rename_i x xs h2;split at he<;>(try (simp at he;done))
  rename_i v hv;exact⟨v,he,by simp only[h1,h2];exact wY6 hρ hv⟩
theorem map_cv{ρ:Operand→VV}{ρc:Operand→CV}(hρ:∀x,ρc x=(ρ x).cv)(l:List Operand):l.map ρc=(l.map ρ).map VV.cv:=by
 rw[Jk];exact Jo fun x _=>hρ x
theorem xZv{ρ:Operand→VV}{ρc:Operand→CV}(hρ:∀x,ρc x=(ρ x).cv)(o:Option Operand):o.map ρc=(o.map ρ).map VV.cv:=by
 cases o<;>simp[hρ]
theorem vXr{ρ:Operand→VV}{ρc:Operand→CV}(hρ:∀x,ρc x=(ρ x).cv)(l:List (Nat×Operand)):(l.map fun p=>(p.1,ρc p.2))=((l.map fun p=>(p.1,ρ p.2)).map fun p=>(p.1,p.2.cv)):=by
 rw[Jk];exact Jo fun x _=>by simp[hρ]
theorem yKm{t:TypeId}{k1 k2:IntKind}(h:wY7 ty t=some (k1,k2)):∃i kt e jk j,ty t=some i∧i.desc=.map kt e∧ty kt=some jk∧ty e=some j∧jk.desc=.int k1∧zeroV j=some (.int k2 0):=by
 unfold wY7 at h;split at h<;>(try (simp at h;done))
 rename_i i hi;split at h<;>(try (simp at h;done))
 rename_i kt e hd;split at h<;>(try (simp at h;done))
 rename_i jk j hk hj;split at h<;>(try (simp at h;done))
 rename_i k1' k2' n hd1 hz;split at h<;>(try (simp at h;done))
 rename_i hn;subst hn;simp only[Qd,Q9]at h;obtain⟨rfl,rfl⟩:=h;exact⟨i,kt,e,jk,j,hi,hd,hk,hj,hd1,hz⟩
theorem wQ3{n:Nat}{t:TypeId}{r0:Option VV}{K:VV→Option VObj→Option β}(he:xZ3 ty n t r0 K=some r):∃v new,K v new=some r∧zY9 ty n t (r0.map VV.cv)=some (v.cv,new.map VObj.ho):=by
 unfold xZ3 at he;split at he<;>(try (simp at he;done))
 rename_i k1 k2 hm;obtain⟨i,kt,e,jk,j,h1,h2,_⟩:=yKm hm;split at he
 ·exact⟨_,_,he,rfl⟩
 ·split at he<;>(try (simp at he;done))
  exact⟨_,_,he,by simp[zY9,VV.cv,h1,h2,vQh,VObj.ho,entC]⟩
theorem yX0{k1 k2:IntKind}{n:Int}:∀(es:List (Int×Int)) (i:Nat),zYa (.int k1 n) (entC k1 k2 es) i=some ((Z.xJ8 n es i).map fun q=>(q.1,CV.int k2 q.2))
 |[],i=>rfl
 |p::es,i=>by
  have:=yX0 (k1:=k1) (k2:=k2) (n:=n) es (i+1);simp only[entC,Qh,zYa,Z.xJ8,if_true]at this⊢;split
  ·rfl
  ·exact this
theorem vKl{h:zQa}{b:Nat}{k1 k2:IntKind}{es:List (Int×Int)}(hb:h[b]?=some (.map k1 k2 es)):(hc h)[b]?=some (.map (entC k1 k2 es)):=by rw[zQy,hb];rfl
theorem wKn{h:zQa}{t:TypeId}{m k:VV}{ok:Bool}{K:VV→Option β}(he:wQ5 ty h t m k ok K=some r):∃v,K v=some r∧yQa ty (hc h) t m.cv k.cv ok=some v.cv:=by
 unfold wQ5 at he;split at he<;>(try (simp at he;done))
 rename_i k1 k2 hm;obtain⟨i,kt,e,jk,j,h1,h2,h3,h4,h5,h6⟩:=yKm hm;split at he<;>(try (simp at he;done))
 rename_i b k0 n;split at he<;>(try (simp at he;done))
 rename_i j1 j2 es hb;split at he<;>(try (simp at he;done))
 rename_i hk;obtain⟨rfl,rfl,rfl⟩:=hk;have key:yQa ty (hc h) t (.map b) (.int j1 n) ok=some (if ok then .tuple [.int j2 (Z.mget es n), .bool (Z.mhas es n)]else .int j2 (Z.mget es n)):=by
  unfold yQa;simp only[h1,h2,h3,h4,h5,plainKey,if_true,zJ3,vKl hb,yX0,h6];cases hf:Z.xJ8 n es 0 with
  |none=>cases ok<;>simp[Z.mget,Z.mhas,hf]
  |some q=>cases ok<;>simp[Z.mget,Z.mhas,hf]
 cases ok with
 |true=>exact⟨_,he,by rw[if_pos rfl]at key;exact key⟩
 |false=>exact⟨_,he,by rw[if_neg (by decide)]at key;exact key⟩
theorem vJm{t:TypeId}{x:VV}{K:VV→Option β}(he:sapV ty t x K=some r):∃v,K v=some r∧sapC ty (hc h) t x.cv=some v.cv:=by
 unfold sapV at he;split at he<;>(try (simp at he;done))
 rename_i i hi;split at he<;>(try (simp at he;done))
 rename_i n e hd;split at he<;>(try (simp at he;done))
 rename_i j hj;split at he<;>(try (simp at he;done))
 rename_i c ds tok full;split at he<;>(try (simp at he;done))
 rename_i hcond;split at he<;>(try (simp at he;done))
 rename_i hn;replace hn:n≤ds.length:=hn;refine⟨_,he, ?_⟩;unfold sapC;simp only[hi,hd,hj,VV.cv,Qg];rw[if_pos ⟨hcond.1,hn,hcond.2⟩];congr 2;simp only[valC];congr 1
 rw[←J3,Qx];have e:ds.take n=(List.range n).map fun i=>ds.getD i (dfl c):=by
  apply Ji;intro i;by_cases hi:i<n
  ·rw[Ja hi]
   simp[hi,List.getD,Qm (show i<ds.length by omega)]
  ·rw[Jl (by simp;omega),Jl (by simp;omega)]
 rw[e,Qx]
theorem vYp{ty:Ty}{H:Heap}{op:BinOp}{t:TypeId}{cst yn:Bool}(x y:VV)(hx:wWa x=true)(hy:wWa y=true):binC ty [] op t cst false x.cv y.cv=binC ty H op t cst yn x.cv y.cv:=by
 cases x<;>simp[wWa]at hx<;>cases y<;>simp[wWa]at hy<;>simp only[VV.cv,binC,eqC]
theorem wQz{ρ:Operand→VV}{ρc:Operand→CV}(hρ:∀x,ρc x=(ρ x).cv){o:Op}{K:VV→Option VObj→Option β}(he:opVQ ty h ρ o K=some r):
  ∃v new,K v new=some r∧opQ ty (hc h) (hc h).length ρc o=some (v.cv,new.map VObj.ho):=by
 cases o<;>simp only[opVQ]at he<;>(try (simp at he;done))<;>simp only[opQ,hρ,zW1]
 case move x=>exact⟨_,_,he,rfl⟩
 case assign x=>exact⟨_,_,he,rfl⟩
 case pick a b d=>obtain⟨v,k1,k2⟩:=vXq he;exact⟨v,none,k1,zXc k2⟩
 case alloc t=>exact vW2 he
 case box t x=>exact uQi he
 case build t parts=>
  obtain⟨v,k1,k2⟩:=vWn he;refine⟨v,none,k1,zXc ?_⟩;rw[←k2,Jk];rfl
 case buildSlice t len parts=>
  obtain⟨v,o,k1,k2⟩:=yXk he;refine⟨v,some o,k1, ?_⟩;have:=xZy k2;rw[Jk]at this;exact this
 case load t a=>obtain⟨v,k1,k2⟩:=wZb he;exact⟨v,none,k1,zXc k2⟩
 case nilCheck x=>obtain⟨v,k1,k2⟩:=xJ4 he;exact⟨v,none,k1,zXc k2⟩
 case makeInterface t x=>
  split at he<;>(try (simp at he;done))
  rename_i u c hm;exact⟨_,none,he,zXc hm⟩
 case binOp op t x y rs=>
  split at he
  ·unfold ifcV at he
   split at he<;>(try (simp at he;done))
   rename_i hi;split at he<;>(try (simp at he;done))
   rename_i b hb;refine⟨.bool b,none,he,zXc ?_⟩;simp only[Qc]at hi;rw[←vYp _ _ hi.1 hi.2,hb];rfl
  split at he
  ·rename_i hy hn
   obtain⟨v,k1,k2⟩:=vYd (cst:=isConst x||isConst y) he;refine⟨v,none,k1,zXc ?_⟩;have hy':zX9 y=true:=by
    unfold vKg at hy;split at hy<;>(try (simp at hy;done))
    rfl
   rw[hn,hy'];exact k2
  ·obtain⟨v,k1,k2⟩:=uQl (h:=h) he;exact⟨v,none,k1,zXc k2⟩
 case unOp op t x=>obtain⟨v,k1,k2⟩:=unV_ok he;exact⟨v,none,k1,zXc k2⟩
 case convert s t x=>exact vZq he
 case sliceToArrayPointer t x=>obtain⟨v,k1,k2⟩:=vJm he;exact⟨v,none,k1,zXc k2⟩
 case makeFunc f first captured=>
  split at he<;>(try (simp at he;done))
  refine⟨_,_,he, ?_⟩;simp only[yQ6,VV.cv,VV.zQt,map_cv hρ];rfl
 case makeSlice t l m=>
  obtain⟨v,o,k1,k2⟩:=xZ1 he;exact⟨v,some o,k1,xZy k2⟩
 case makeMap t x=>
  obtain⟨v,new,k1,k2⟩:=wQ3 he;exact⟨v,new,k1,by rw[xZv hρ x];exact k2⟩
 case lookup t m k ok=>
  obtain⟨v,k1,k2⟩:=wKn he;exact⟨v,none,k1,zXc k2⟩
 case slice t x lo hi mx=>
  obtain⟨v,k1,k2⟩:=wJ9 he;refine⟨v,none,k1,zXc ?_⟩;rw[xZv hρ lo,xZv hρ hi,xZv hρ mx];exact k2
 case fieldAddr t x f=>obtain⟨v,k1,k2⟩:=xKl he;exact⟨v,none,k1,zXc k2⟩
 case field t x f=>obtain⟨v,k1,k2⟩:=vQx he;exact⟨v,none,k1,zXc k2⟩
 case indexAddr t x i=>obtain⟨v,k1,k2⟩:=xKb he;exact⟨v,none,k1,zXc k2⟩
 case index t x i=>obtain⟨v,k1,k2⟩:=vQl he;exact⟨v,none,k1,zXc k2⟩
 case extract x i=>obtain⟨v,k1,k2⟩:=wWm he;exact⟨v,none,k1,zXc k2⟩
 case call cl=>obtain⟨v,k1,k2⟩:=vWj hρ he;exact⟨v,none,k1,zXc k2⟩
theorem zYy{c:C}{ds ns:List (El c)}{off:Nat}:vecC c (zQh ds off ns)=zQh (vecC c ds) (off*c.cells) (vecC c ns):=by
 unfold zQh;rw[zYz,zYz,zQm,←Qv,zW0,zWg]
theorem vZo{t:TypeId}{d s:VV}{K:VV→zQa→Option β}(he:copyV ty h t d s K=some r):∃v h',K v h'=some r∧xYq ty (hc h) t d.cv s.cv=some (v.cv,hc h'):=by
 unfold copyV at he;split at he<;>(try (simp at he;done))
 rename_i i hi;split at he<;>(try (simp at he;done))
 rename_i e hd;split at he<;>(try (simp at he;done))
 rename_i j c hj hcc;have hfit:=zJv he;obtain⟨f1,f2,f3⟩:=zXl hfit;obtain⟨ys,h1,e1⟩:=zZl he;split at h1<;>(try (simp at h1;done))
 ·rename_i b off len cap ex c'
  split at h1<;>(try (simp at h1;done))
  rename_i c'' ds hb;split at h1<;>(try (simp at h1;done))
  rename_i hc1;subst hc1;split at h1<;>(try (simp at h1;done))
  rename_i hc2;subst hc2;split at h1<;>(try (simp at h1;done))
  rename_i hle;replace hle:off+len≤ds.length:=hle;refine⟨_,_,h1, ?_⟩;unfold xYq;simp only[hi,hd,hj,e1,VV.cv,zWx hb,Qg];have hnews:((ys.map (valC c'')).take (min ys.length len)).flatMap CV.flat=vecC c'' (ys.take (min ys.length len)):=by
   rw[←J3,Qx];rfl
  rw[hnews,if_pos ⟨f2.symm,by rw[zQm,←Qv];exact Ql _ hle,zW3 _ _⟩]
  rw[zQu];simp only[VObj.ho,Z.put,zYy,Z.take,Z.minN,Z.len,Z.ofN]
 ·rename_i b c' dd
  split at h1<;>(try (simp at h1;done))
  rename_i c'' dss hb;split at h1<;>(try (simp at h1;done))
  rename_i hc1;subst hc1;split at h1<;>(try (simp at h1;done))
  rename_i hc2;subst hc2;split at h1<;>(try (simp at h1;done))
  rename_i hx;replace hx:dd.xw dss=true:=hx;refine⟨_,_,h1, ?_⟩;cases dd with
  |data _=>simp[MixE.xw]at hx
  |nil=>simp[MixE.xw]at hx
  |ref k off n gen=>
  simp only[MixE.xw,Qc,decide_eq_true_eq,beq_iff_eq]at hx;obtain⟨q1,q2,q3⟩:=hx;unfold xYq;simp only[hi,hd,hj,e1,VV.cv,valC,mixC,zKt hb q1 q2,yWe hb,Qg];have hnews:((ys.map (valC c'')).take (min ys.length n)).flatMap CV.flat=vecC c'' (ys.take (min ys.length n)):=by
   rw[←J3,Qx];rfl
  rw[hnews,if_pos ⟨f2.symm,by rw[zQm,←Qv];exact Ql _ (by omega),zW3 _ _⟩]
  rw[zQu,←zYy];simp only[VObj.ho,Qd,Q9];refine⟨trivial, ?_⟩;congr 2;show _=(dss.set k (zQh (dss.getD k []) off (ys.take (min ys.length n)))).map (vecC c'');rw[Q3]
def zQd(m:List Nat)(h h':zQa):Prop:=h.length≤h'.length∧∀b,b<h.length→b∉m→h'[b]?=h[b]?
theorem zQd.refl(m:List Nat)(h:zQa):zQd m h h:=⟨Qf _,fun _ _ _=>rfl⟩
theorem zQd.trans{m m':List Nat}{h h1 h2:zQa}(a:zQd m h h1)(b:zQd m' h1 h2)(hm:∀x∈m,x∈m'):zQd m' h h2:=
 ⟨J5 a.1 b.1,fun x hx hn=>(b.2 x (Kc hx a.1) hn).trans (a.2 x hx fun y=>hn (hm x y))⟩
theorem zQd.push{m:List Nat}{h h1:zQa}(a:zQd m h h1)(k:zQa):zQd m h (h1++k):=
 ⟨by simp;have:=a.1;omega,fun b hb hn=>by rw[Qb (Kc hb a.1)];exact a.2 b hb hn⟩
theorem zQd.set{m:List Nat}{h:zQa}{b:Nat}(hb:b∈m)(o:VObj):zQd m h (h.set b o):=
 ⟨by simp,fun b' _ hn=>Qe fun e=>by subst e;exact hn hb⟩
theorem zQd.mono{m m':List Nat}{h h':zQa}(a:zQd m h h')(hm:∀x∈m,x∈m'):zQd m' h h':=⟨a.1,fun b hb hn=>a.2 b hb fun y=>hn (hm b y)⟩
theorem yK7{t:TypeId}{x v:VV}{K:zQa→Option β}(he:yQt ty h t x v K=some r):∃h',K h'=some r∧zKq ty (hc h) t x.cv v.cv=some (hc h')∧zQd x.blk h h':=by
 have key2:yQt ty h t x v K=(yQt ty h t x v some).bind K:=by
  unfold yQt;split
  ·split
   ·split
    ·split<;>rfl
    ·split
     ·split
      ·split
       ·split<;>rfl
       ·rfl
      ·rfl
     ·split
      ·split
       ·split<;>rfl
       ·rfl
      ·rfl
     ·rfl
    ·rfl
   ·split
    ·split
     ·split
      ·split<;>rfl
      ·rfl
     ·rfl
    ·rfl
   ·split
    ·split
     ·split
      ·simp only[Z.bnd]
       split<;>rfl
      ·rfl
     ·rfl
    ·rfl
   ·split
    ·split
     ·split
      ·split
       ·split<;>rfl
       ·split
        ·simp only[Z.bnd]
         split<;>rfl
        ·rfl
      ·rfl
     ·rfl
    ·rfl
   ·rfl
   ·rfl
  ·rfl
 cases hs:yQt ty h t x v some with
 |none=>rw[key2,hs]at he;simp at he
 | some h'=>
  rw[key2,hs]at he;obtain⟨h'',e1,e2⟩:=wJv hs;simp only[Qd]at e1;subst e1;refine⟨_,he,e2, ?_⟩;unfold yQt at hs;split at hs<;>(try (simp at hs;done))
  split at hs<;>(try (simp at hs;done))
  ·split at hs<;>(try (simp at hs;done))
   ·split at hs<;>(try (simp at hs;done))
    simp at hs;subst hs;exact zQd.set (by simp[VV.blk]) _
   ·split at hs<;>(try (simp at hs;done))
    ·split at hs<;>(try (simp at hs;done))
     split at hs<;>(try (simp at hs;done))
     split at hs<;>(try (simp at hs;done))
     simp at hs;subst hs;exact zQd.set (by simp[VV.blk]) _
    ·split at hs<;>(try (simp at hs;done))
     split at hs<;>(try (simp at hs;done))
     split at hs<;>(try (simp at hs;done))
     simp at hs;subst hs;exact zQd.set (by simp[VV.blk]) _
  ·split at hs<;>(try (simp at hs;done))
   split at hs<;>(try (simp at hs;done))
   split at hs<;>(try (simp at hs;done))
   split at hs<;>(try (simp at hs;done))
   simp at hs;subst hs;exact zQd.set (by simp[VV.blk]) _
  ·split at hs<;>(try (simp at hs;done))
   split at hs<;>(try (simp at hs;done))
   split at hs<;>(try (simp at hs;done))
   simp only[Z.bnd]at hs;split at hs<;>(try (simp at hs;done))
   simp at hs;subst hs;exact zQd.set (by simp[VV.blk]) _
  ·split at hs<;>(try (simp at hs;done))
   split at hs<;>(try (simp at hs;done))
   split at hs<;>(try (simp at hs;done))
   split at hs
   ·split at hs<;>(try (simp at hs;done))
    simp[Z.bnd]at hs;subst hs;exact zQd.set (by simp[VV.blk]) _
   ·split at hs<;>(try (simp at hs;done))
    simp only[Z.bnd]at hs;split at hs<;>(try (simp at hs;done))
    simp at hs;subst hs;exact zQd.set (by simp[VV.blk]) _
end
end Go.Eng
/- What the evaluator over typed values needs besides: what stays, weaker values, places that are cut off. -/
namespace Go.Eng
set_option linter.unusedVariables false
section
variable {β:Type} {ty:Ty} {h:zQa} {r:β}
theorem yYq{e:TypeId}{j:TI}{x:VV}{c:C}{k:List (El c)→Option β}(he:srcV ty h e j x c k=some r):∃ds,k ds=some r∧∀{γ:Type} (k':List (El c)→Option γ),srcV ty h e j x c k'=k' ds:=by
 unfold srcV at he⊢;split at he<;>(try (simp at he;done))
 rename_i hf;split at he<;>(try (simp at he;done))
 ·split at he<;>(try (simp at he;done))
  rename_i hcc;exact⟨_,he,fun k'=>by simp[hf,hcc]⟩
 ·exact⟨_,he,fun k'=>by simp[hf]⟩
 ·split at he<;>(try (simp at he;done))
  ·rename_i hb
   split at he<;>(try (simp at he;done))
   rename_i h1;split at he<;>(try (simp at he;done))
   rename_i h2;split at he<;>(try (simp at he;done))
   rename_i h3;exact⟨_,he,fun k'=>by simp only[hf,if_true,h1,dif_pos h2];rw[if_pos h3]⟩
  ·split at he<;>(try (simp at he;done))
   rename_i h1;split at he<;>(try (simp at he;done))
   rename_i h2;split at he<;>(try (simp at he;done))
   rename_i ds hds;exact⟨_,he,fun k'=>by simp only[if_pos hf,if_pos h1,if_pos h2]⟩
 ·split at he<;>(try (simp at he;done))
  rename_i hb;split at he<;>(try (simp at he;done))
  rename_i h1;split at he<;>(try (simp at he;done))
  rename_i h2;split at he<;>(try (simp at he;done))
  rename_i h3;exact⟨_,he,fun k'=>by simp only[hf,if_true,dif_pos h1,dif_pos h2,Z.bnd];rw[if_pos h3]⟩
 ·split at he<;>(try (simp at he;done))
  rename_i hd;split at he<;>(try (simp at he;done))
  rename_i hcc;exact⟨_,he,fun k'=>by simp only[hf,if_true];rw[dif_pos hcc]⟩
theorem yZ3{t u:TypeId}{s x:VV}{K:VV→zQa→Option β}(he:yX6 ty h t u s x K=some r):
  ∃v h',K v h'=some r∧zXd true ty (hc h) t u s.cv x.cv=some (v.cv,hc h')∧zQd s.blk h h':=by
 have key:∃v h',K v h'=some r∧yX6 ty h t u s x (fun v h=>some (v,h))=some (v,h')∧zQd s.blk h h':=by
  unfold yX6 at he⊢;split at he<;>(try (simp at he;done))
  split at he<;>(try (simp at he;done))
  rename_i hd;split at he<;>(try (simp at he;done))
  rename_i hj hcc;split at he<;>(try (simp at he;done))
  rename_i hcond;simp only[if_pos hcond];obtain⟨ys,h1,e1⟩:=yYq he;obtain⟨xs,h2,e2⟩:=yYq h1;simp only[e1,e2];split at h2
  ·cases h2
  rename_i hbig;simp only[if_neg hbig];split at h2<;>(try (simp at h2;done))
  ·split at h2
   ·split at h2
    ·rename_i hx0
     exact⟨_,_,h2,by rw[if_pos hx0],(zQd.refl _ _).push _⟩
    ·rename_i hx0
     split at h2
     ·rename_i hy0
      exact⟨_,_,h2,by rw[if_neg hx0,if_pos hy0],zQd.refl _ _⟩
     ·rename_i hy0
      exact⟨_,_,h2,by rw[if_neg hx0,if_neg hy0],(zQd.refl _ _).push _⟩
   ·split at h2<;>(try (simp at h2;done))
    rename_i k;split at h2<;>(try (simp at h2;done))
    rename_i v0 hk;split at h2<;>(try (simp at h2;done))
    rename_i hv0;exact⟨_,_,h2,by rw[if_pos hv0],zQd.set (by simp[VV.blk]) _⟩
  ·exact⟨_,_,h2,rfl,(zQd.refl _ _).push _⟩
  ·exact⟨_,_,h2,rfl,(zQd.set (by simp[VV.blk]) _).push _⟩
 obtain⟨v,h',k1,k2,k3⟩:=key;obtain⟨v2,h2,e1,e2⟩:=wK2 k2;simp only[Qd,Q9]at e1;obtain⟨rfl,rfl⟩:=e1;exact⟨_,_,k1,e2,k3⟩
theorem wWv{t:TypeId}{d s:VV}{K:VV→zQa→Option β}(he:copyV ty h t d s K=some r):
  ∃v h',K v h'=some r∧xYq ty (hc h) t d.cv s.cv=some (v.cv,hc h')∧zQd d.blk h h':=by
 have key:∃v h',K v h'=some r∧copyV ty h t d s (fun v h=>some (v,h))=some (v,h')∧zQd d.blk h h':=by
  unfold copyV at he⊢;split at he<;>(try (simp at he;done))
  split at he<;>(try (simp at he;done))
  rename_i hd;split at he<;>(try (simp at he;done))
  rename_i hj hcc;obtain⟨ys,h1,e1⟩:=yYq he;simp only[e1];split at h1<;>(try (simp at h1;done))
  ·split at h1<;>(try (simp at h1;done))
   rename_i hb;split at h1<;>(try (simp at h1;done))
   rename_i g1;split at h1<;>(try (simp at h1;done))
   rename_i g2;split at h1<;>(try (simp at h1;done))
   rename_i g3;exact⟨_,_,h1,by simp only[if_pos g1,dif_pos g2];rw[if_pos g3],zQd.set (by simp[VV.blk]) _⟩
  ·split at h1<;>(try (simp at h1;done))
   rename_i hb;split at h1<;>(try (simp at h1;done))
   rename_i g1;split at h1<;>(try (simp at h1;done))
   rename_i g2;split at h1<;>(try (simp at h1;done))
   rename_i g3;exact⟨_,_,h1,by simp only[dif_pos g1,dif_pos g2,Z.bnd];rw[if_pos g3],zQd.set (by simp[VV.blk]) _⟩
 obtain⟨v,h',k1,k2,k3⟩:=key;obtain⟨v2,h2,e1,e2⟩:=vZo k2;simp only[Qd,Q9]at e1;obtain⟨rfl,rfl⟩:=e1;exact⟨_,_,k1,e2,k3⟩
theorem wJ5{H:Heap}{j:TI}{esz b off cap:Nat}{ex:Bool}{ys:List CV}(h:srcE H j (.sref esz b off 0 cap ex)=some ys):ys=[]:=by
 simp only[srcE]at h;split at h<;>(try (simp at h;done))
 split at h<;>(try (simp at h;done))
 simp[chunks]at h;exact h
theorem vK8{e:TypeId}{j:TI}{s:VV}{c:C}{K:List (El c)→Option β}(he:srcS ty h e j s c K=some r):∃ds,K ds=some r∧srcE (hc h) j s.cv=some (ds.map (valC c)):=by
 unfold srcS at he;split at he
 ·split at he
  ·exact zZl he
  ·split at he
   ·split at he<;>(try (simp at he;done))
    split at he<;>(try (simp at he;done))
    obtain⟨ds,h1,h2⟩:=zZl he;refine⟨[],h1, ?_⟩;have h3:=h2;simp only[VV.cv]at h3;have:=wJ5 h3;rw[h2,this];rfl
   ·exact zZl he
 ·exact zZl he
theorem xX4{t u:TypeId}{s x:VV}{K:VV→zQa→Option β}(he:xK0 ty h t u s x K=some r):
  ∃v h',K v h'=some r∧zXd false ty (hc h) t u s.cv x.cv=some (v.cv,hc h')∧zQd s.blk h h':=by
 unfold xK0 at he;split at he<;>(try (simp at he;done))
 rename_i i iu hi hiu;split at he<;>(try (simp at he;done))
 rename_i e hd;split at he<;>(try (simp at he;done))
 rename_i j c hj hcc;split at he<;>(try (simp at he;done))
 rename_i hcond;have hfit:fitC j c=true:=zJv he;obtain⟨ys,h1,e1⟩:=zZl he;obtain⟨xs,h2,e2⟩:=vK8 h1;obtain⟨f1,f2,f3⟩:=zXl hfit;have hn1:¬2^30<j.bytes:=hcond.2
 have happ:∀y,appC (hc h) j iu.desc y=srcE (hc h) j y:=fun y=>by unfold appC;rw[hcond.1];rfl
 have hones:((xs.map (valC c)++ys.map (valC c)).flatMap CV.flat).all CV.one=true:=by
  rw[←Qr,Qx];exact zW3 c (xs++ys)
 have hflat:(xs.map (valC c)++ys.map (valC c)).flatMap CV.flat=vecC c (xs++ys):=by
  rw[←Qr,Qx];rfl
 unfold zXd;simp only[hi,hiu,hd,hj];rw[if_neg hn1];simp only[happ,e1,e2];split at h2
 ·rename_i hz
  have hys:ys=[]:=Qq.1 hz;subst hys;rw[if_pos ⟨by simp,rfl⟩]
  split at h2<;>(try (simp at h2;done))
  ·exact⟨_,_,h2,rfl,zQd.refl _ _⟩
  ·exact⟨_,_,h2,rfl,zQd.refl _ _⟩
  ·exact⟨_,_,h2,rfl,zQd.refl _ _⟩
 ·rename_i hz
  have hys:ys.map (valC c)≠[]:=by
   intro e;have:ys=[]:=by simpa using e
   exact hz (by rw[this];rfl)
  rw[if_neg (fun h=>hys h.1)]
  split at h2
  ·cases h2
  rename_i hbig;have hbig':¬(2^44<((xs.map (valC c)).length+(ys.map (valC c)).length)*(j.bytes+1)∨(!((xs.map (valC c)++ys.map (valC c)).flatMap CV.flat).all CV.one)=true):=by
   rintro(h|h)
   ·exact hbig (by simpa only[Qg]using h)
   ·rw[hones]at h;exact absurd h (by decide)
  rw[if_neg hbig'];split at h2<;>(try (simp at h2;done))
  ·split at h2<;>(try (simp at h2;done))
   refine⟨_,_,h2, ?_,(zQd.refl _ _).push _⟩;simp only[VV.cv,if_true,Jf,if_false,hflat];simp[f2,hc,VObj.ho]
  ·refine⟨_,_,h2, ?_,(zQd.refl _ _).push _⟩
   simp only[VV.cv,if_true,Jf,if_false,hflat];simp[f2,hc,VObj.ho]
  ·refine⟨_,_,h2, ?_,(zQd.set (by simp[VV.blk]) _).push _⟩
   simp only[VV.cv,Jf,if_false,hflat];simp[f2,hc,VObj.ho,Q3]
theorem xX3{t u:TypeId}{s x:VV}{K:VV→zQa→Option β}(he:xKz ty h t u s x K=some r):
  ∃v h',K v h'=some r∧zXd false ty (hc h) t u s.cv x.cv=some (v.cv,hc h')∧zQd s.blk h h':=by
 unfold xKz at he;split at he<;>(try (simp at he;done))
 rename_i i iu hi hiu;split at he<;>(try (simp at he;done))
 rename_i e hd;split at he<;>(try (simp at he;done))
 rename_i j c hj hcc;split at he<;>(try (simp at he;done))
 rename_i hcond;obtain⟨hint,hn1,hzd⟩:=hcond;split at he<;>(try (simp at he;done))
 rename_i kn n;have hfit:fitC j c=true:=zJv he;obtain⟨xs,h2,e2⟩:=zZl he;split at h2<;>(try (simp at h2;done))
 rename_i hzk;have hzk':=Z.wW5.1 hzk;have e1:appC (hc h) j iu.desc (VV.int kn n).cv=some ((List.replicate n.toNat (dfl c)).map (valC c)):=by
  unfold vXa at hzd;split at hzd<;>(try (simp at hzd;done))
  rename_i z hz;have:=CV.same_eq _ _ hzd;subst this;unfold appC;rw[if_pos hint];simp only[VV.cv,hz];rw[if_pos hzk',List.map_replicate]
 have hb0:∀k:List (El c)→Option β,Z.bnd (Z.rep (Z.toN n) (dfl c)) k=k (Z.rep (Z.toN n) (dfl c)):=fun _=>rfl
 rw[hb0]at h2;have e1:appC (hc h) j iu.desc (VV.int kn n).cv=some ((Z.rep (Z.toN n) (dfl c)).map (valC c)):=e1;generalize Z.rep (Z.toN n) (dfl c)=ys at e1 h2
 obtain⟨f1,f2,f3⟩:=zXl hfit;have hones:((xs.map (valC c)++ys.map (valC c)).flatMap CV.flat).all CV.one=true:=by
  rw[←Qr,Qx];exact zW3 c (xs++ys)
 have hflat:(xs.map (valC c)++ys.map (valC c)).flatMap CV.flat=vecC c (xs++ys):=by
  rw[←Qr,Qx];rfl
 unfold zXd;simp only[hi,hiu,hd,hj];rw[if_neg hn1];simp only[e1,e2];split at h2
 ·cases h2
 ·rename_i hz
  have hys:ys.map (valC c)≠[]:=by
   intro e;have:ys=[]:=by simpa using e
   exact hz (by rw[this];rfl)
  rw[if_neg (fun h=>hys h.1)]
  split at h2
  ·cases h2
  rename_i hbig;have hbig':¬(2^44<((xs.map (valC c)).length+(ys.map (valC c)).length)*(j.bytes+1)∨(!((xs.map (valC c)++ys.map (valC c)).flatMap CV.flat).all CV.one)=true):=by
   rintro(h|h)
   ·exact hbig (by simpa only[Qg]using h)
   ·rw[hones]at h;exact absurd h (by decide)
  rw[if_neg hbig'];split at h2<;>(try (simp at h2;done))
  ·split at h2<;>(try (simp at h2;done))
   refine⟨_,_,h2, ?_,(zQd.refl _ _).push _⟩;simp only[VV.cv,if_true,Jf,if_false,hflat];simp[f2,hc,VObj.ho]
  ·refine⟨_,_,h2, ?_,(zQd.refl _ _).push _⟩
   simp only[VV.cv,if_true,Jf,if_false,hflat];simp[f2,hc,VObj.ho]
  ·refine⟨_,_,h2, ?_,(zQd.set (by simp[VV.blk]) _).push _⟩
   simp only[VV.cv,Jf,if_false,hflat];simp[f2,hc,VObj.ho,Q3]
theorem xWb{t u:TypeId}{s x:VV}{K:VV→zQa→Option β}(he:yYe ty h t u s x K=some r):
  ∃v h',K v h'=some r∧zXd true ty (hc h) t u s.cv x.cv=some (v.cv,hc h')∧zQd s.blk h h':=by
 unfold yYe at he;split at he<;>(try (simp at he;done))
 rename_i i iu hi hiu;split at he<;>(try (simp at he;done))
 rename_i e hd;split at he<;>(try (simp at he;done))
 rename_i j c hj hcc;split at he<;>(try (simp at he;done))
 rename_i hcond;obtain⟨hint,hn1,hzd⟩:=hcond;split at he<;>(try (simp at he;done))
 rename_i kn n;have hfit:fitC j c=true:=zJv he;obtain⟨xs,h1,e2⟩:=zZl he;have h2:=h1;split at h2<;>(try (simp at h2;done))
 rename_i hzk;have hzk':=Z.wW5.1 hzk;have e1:appC (hc h) j iu.desc (VV.int kn n).cv=some ((List.replicate n.toNat (dfl c)).map (valC c)):=by
  unfold vXa at hzd;split at hzd<;>(try (simp at hzd;done))
  rename_i z hz;have:=CV.same_eq _ _ hzd;subst this;unfold appC;rw[if_pos hint];simp only[VV.cv,hz];rw[if_pos hzk',List.map_replicate]
 have hb0:∀k:List (El c)→Option β,Z.bnd (Z.rep (Z.toN n) (dfl c)) k=k (Z.rep (Z.toN n) (dfl c)):=fun _=>rfl
 rw[hb0]at h2;have e1:appC (hc h) j iu.desc (VV.int kn n).cv=some ((Z.rep (Z.toN n) (dfl c)).map (valC c)):=e1;generalize Z.rep (Z.toN n) (dfl c)=ys at e1 h2
 obtain⟨f1,f2,f3⟩:=zXl hfit;have hones:((xs.map (valC c)++ys.map (valC c)).flatMap CV.flat).all CV.one=true:=by
  rw[←Qr,Qx];exact zW3 c (xs++ys)
 unfold zXd;simp only[hi,hiu,hd,hj];rw[if_neg hn1];simp only[e1,e2];split at h2
 ·cases h2
 rename_i hbig;have hbig':¬(2^44<((xs.map (valC c)).length+(ys.map (valC c)).length)*(j.bytes+1)∨(!((xs.map (valC c)++ys.map (valC c)).flatMap CV.flat).all CV.one)=true):=by
  rintro(h|h)
  ·exact hbig (by simpa only[Qg]using h)
  ·rw[hones]at h;exact absurd h (by decide)
 split at h2<;>(try (simp at h2;done))
 ·rename_i c' ds' tok full
  split at h2<;>(try (simp at h2;done))
  split at h2<;>(try (simp at h2;done))
  rename_i k;split at h2<;>(try (simp at h2;done))
  rename_i v0 hk;split at h2<;>(try (simp at h2;done))
  rename_i hv0;refine⟨_,_,h2, ?_,zQd.set (by simp[VV.blk]) _⟩
  have hk':(hc h)[k]?=some (.tail v0):=by rw[zQy,hk];rfl
  have hcs:c'.cells=j.size:=by
   have:=wJ4 he;subst this;exact f2.symm
  have res:some (CV.slice j.size (xs.map (valC c)++ys.map (valC c)) (some k) false,(hc h).set k (HObj.tail ((xs.map (valC c)).length+(ys.map (valC c)).length)))=
    some ((VV.sl c (xs++ys) (some k) false).cv,hc (h.set k (.tail (xs++ys).length))):=by
   simp[VV.cv,zQu,f2,VObj.ho]
  have hsr:zKc (VV.sl c' ds' (some k) false).cv=false:=rfl;by_cases hy:ys.map (valC c)=[]
  ·rw[if_pos ⟨hy,by rw[hsr];rfl⟩]
   simp only[VV.cv,if_true,Jf,if_false,hk'];rw[if_pos ⟨by simpa using hv0,hcs⟩]
   exact res
  ·rw[if_neg (fun h=>hy h.1),if_neg hbig']
   simp only[VV.cv,Jf,if_false,hk'];rw[if_pos ⟨by simpa using hv0,hcs⟩]
   exact res
 ·have hsr:zKc VV.nsl.cv=false:=rfl
  refine⟨_,_,h2, ?_,(zQd.refl _ _).push _⟩;have res:some (CV.slice j.size (xs.map (valC c)++ys.map (valC c)) (some (hc h).length) false,hc h++[HObj.tail ((xs.map (valC c)).length+(ys.map (valC c)).length)])=
    some ((VV.sl c (xs++ys) (some h.length) false).cv,hc (h++[.tail (xs++ys).length])):=by
   simp[VV.cv,f2,hc,VObj.ho]
  have hx:xs.map (valC c)=[]:=by
   have e3:=e2;simp only[srcE,VV.cv]at e3;split at e3<;>simp at e3;simp[e3]
  by_cases hy:ys.map (valC c)=[]
  ·rw[if_pos ⟨hy,by rw[hsr];rfl⟩]
   simp only[VV.cv,if_true];rw[if_pos hx];exact res
  ·rw[if_neg (fun h=>hy h.1),if_neg hbig']
   simp only[VV.cv,if_true];exact res
theorem xZz{t:TypeId}{m k v:VV}{K:zQa→Option β}(he:yKl ty h t m k v K=some r):∃h',K h'=some r∧zZu ty (hc h) t m.cv k.cv v.cv=some (hc h')∧zQd m.blk h h':=by
 unfold yKl at he;split at he<;>(try (simp at he;done))
 rename_i k1 k2 hm;obtain⟨i,kt,e,jk,j,h1,h2,h3,h4,h5,h6⟩:=yKm hm;split at he<;>(try (simp at he;done))
 rename_i b k0 n k3 x;split at he<;>(try (simp at he;done))
 rename_i j1 j2 es hb;split at he<;>(try (simp at he;done))
 rename_i hk;obtain⟨rfl,rfl,rfl,rfl⟩:=hk;refine⟨_,he, ?_,zQd.set (Jc ..) _⟩;unfold zZu;simp only[VV.cv,h1,h2,h3,h5,plainKey,if_true,vKl hb,yX0];cases hf:Z.xJ8 n es 0 with
 |none=>simp[Z.mput,hf,zQu,VObj.ho,entC]
 |some q=>simp[Z.mput,hf,zQu,VObj.ho,entC,Q3]
def noSr:CV→Bool
 | .sref _ _ _ _ _ _=>false
 |_=>true
theorem xYi(c:CV):zKc c=!noSr c:=by cases c<;>rfl
theorem xJ7{α:Type}(b sz:Nat)(f:α→CV)(d:MixE α):noSr (mixC b sz f d)=true:=by cases d<;>rfl
theorem yX8:∀(c:C) (d:El c),(valC c d).flat.all noSr=true
 | .mix b c,d=>by simp only[valC,zWj,Jq,xJ7,List.all_nil,Kx]
 | .bool,b=>rfl
 | .int k,n=>rfl
 | .str,s=>rfl
 | .list c,ds=>rfl
 | .unit,_=>rfl
 | .pair a b,d=>by simp only[valC,flat_agg,List.all_append,yX8 a d.1,yX8 b d.2,Kx]
 | .arr n c,ds=>by
  simp only[valC,flat_agg,Qo];intro x hx;obtain⟨i,_,hi⟩:=Jm.1 hx;exact Qo.1 (yX8 c _) x hi
theorem wJj(c:C)(ds:List (El c)):(vecC c ds).any zKc=false:=by
 rw[Ko];intro x hx;obtain⟨d,_,hd⟩:=Jm.1 hx;have:=Qo.1 (yX8 c d) x hd;rw[xYi,this];simp
theorem wXo(v:VV):zKc v.cv=srA v:=by
 cases v<;>try rfl
 exact by rw[xYi];simp[VV.cv,valC,xJ7,srA]
theorem vZj{c0:C}{b j:Nat}{K:zQa→Option β}(he:vYx c0 b j h K=some r):∃h1,K h1=some r∧frz1 b j (hc h)=some (hc h1)∧
  ∀m,b∈m→(∀vs,h[b]?=some (.cells vs)→∀v∈vs,srA v=true→∀y∈v.blk,y∈m)→zQd m h h1∧∀vs,h1[b]?=some (.cells vs)→∀v∈vs,srA v=true→∀y∈v.blk,y∈m:=by
 unfold vYx at he;split at he<;>(try (simp at he;done))
 rename_i vs hb;have hlt:b<h.length:=(Qa.1 hb).1;have hget:∀v,vs[j]?=some v→(vs.map VV.cv)[j]?=some v.cv:=fun v hv=>by rw[Qu,hv];rfl
 split at he
 ·rename_i b1 off len cap ex c hj
  split at he<;>(try (simp at he;done))
  rename_i c' ds hb1;split at he<;>(try (simp at he;done))
  rename_i hcond;obtain⟨q1,rfl,q3,q4⟩:=hcond;split at he<;>(try (simp at he;done))
  rename_i hle;replace hle:off+len≤ds.length:=hle;refine⟨_,he, ?_,fun m hm hv=>⟨?_, ?_⟩⟩
  ·have hflat:∀d:El c',(valC c' d).flat=[valC c' d]:=fun d=>by
    cases c'<;>simp[C.agg]at q4<;>first|rfl|exact zWj _ _ _ _
   have hvec:vecC c' ds=ds.map (valC c'):=by
    unfold vecC;rw[show(fun d=>(valC c' d).flat)=fun d=>[valC c' d]from funext hflat]
    exact(List.map_eq_flatMap ..).symm
   unfold frz1;rw[zWd hb];simp only[hget _ hj,VV.cv,zWx hb1];rw[if_pos ⟨q1,q3,by rw[zQm,q3];omega,zW3 c' ds⟩]
   rw[zQu,zQu];simp only[VObj.ho,Q3,VV.cv,q3,Ku];rw[hvec];simp[Z.seg]
  ·exact(zQd.set (m:=m) (b:=b1) (hv vs hb _ (Qk hj) rfl b1 (by simp[VV.blk])) .dead).trans (zQd.set (m:=m) hm _) (fun _ h=>h)
  ·intro vs1 h1 v hv1 hs y hy
   rw[Qj (by simpa using hlt)]at h1
   simp only[Qd,VObj.cells.injEq]at h1;subst h1;rcases List.mem_or_eq_of_mem_set hv1 with h2|h2
   ·exact hv vs hb v h2 hs y hy
   ·subst h2;simp[srA]at hs
 ·rename_i hj
  split at he<;>(try (simp at he;done))
  rename_i c' hcc;split at he<;>(try (simp at he;done))
  rename_i hc1;refine⟨_,he, ?_,fun m hm hv=>⟨zQd.set hm _, ?_⟩⟩
  ·unfold frz1
   rw[zWd hb];simp only[hget _ hj,VV.cv];rw[zQu];simp[VObj.ho,Q3,VV.cv,hc1]
  ·intro vs1 h1 v hv1 hs y hy
   rw[Qj hlt]at h1;simp only[Qd,VObj.cells.injEq]at h1;subst h1;rcases List.mem_or_eq_of_mem_set hv1 with h2|h2
   ·exact hv vs hb v h2 hs y hy
   ·subst h2;simp[srA]at hs
 ·cases he
 ·cases he
 ·rename_i hno hno2 hno3 hno4
  refine⟨_,he, ?_,fun m hm hv=>⟨zQd.refl _ _,hv⟩⟩
  unfold frz1;rw[zWd hb];cases hj:vs[j]? with
  |none=>simp[hj]
  | some v=>
   simp only[hget _ hj];split
   ·rename_i e
    simp only[Qd]at e;have h1:=wXo v;rw[e]at h1;cases v<;>simp[srA,zKc]at h1;exact absurd hj (by intro h;exact hno _ _ _ _ _ _ h)
   ·rename_i e
    simp only[Qd]at e;cases v<;>simp[VV.cv,zWk,valC]at e
    ·exact absurd hj (by intro h;exact hno2 h)
    ·obtain⟨_,_,rfl,rfl⟩:=e
     exact absurd hj (by intro h;exact hno3 _ _ h)
    ·exact absurd hj (by intro h;exact hno4 _ _ _ h)
   ·rfl
theorem wZk{c0:C}{b:Nat}:∀{js:List Nat} {h:zQa} {K:zQa→Option β},vYt c0 b js h K=some r→∃h1,K h1=some r∧frzN b js (hc h)=some (hc h1)∧
  ∀m,b∈m→(∀vs,h[b]?=some (.cells vs)→∀v∈vs,srA v=true→∀y∈v.blk,y∈m)→zQd m h h1
 |[],h,K,he=>⟨h,he,rfl,fun m _ _=>zQd.refl _ _⟩
 |j::js,h,K,he=>by
  obtain⟨h1,e1,e2,e3⟩:=vZj he;obtain⟨h2,g1,g2,g3⟩:=wZk e1;refine⟨h2,g1,by simp only[frzN,e2,g2],fun m hm hv=>?_⟩
  obtain⟨s1,s2⟩:=e3 m hm hv;exact s1.trans (g3 m hm s2) fun _ h=>h
theorem wWh{x:VV}{K:zQa→Option β}(he:frzX h x K=some r):∃h1,K h1=some r∧(∀lit t u s,zJs lit ty (hc h) t u s x.cv=zXd lit ty (hc h1) t u s x.cv)∧zQd (xW4 h x) h h1:=by
 have none_ok:xZx (hc h) x.cv=none→K h=some r→∃h1,K h1=some r∧(∀lit t u s,zJs lit ty (hc h) t u s x.cv=zXd lit ty (hc h1) t u s x.cv)∧zQd (xW4 h x) h h1:=
  fun hn hk=>⟨h,hk,fun lit t u s=>by unfold zJs;rw[hn],zQd.refl _ _⟩
 unfold frzX at he;split at he
 ·rename_i b off len cap ex c
  split at he
  ·rename_i vs hb
   have hany:(vs.map VV.cv).any zKc=vs.any srA:=by
    rw[List.any_map];congr 1;funext v;exact wXo v
   split at he
   ·rename_i ha
    obtain⟨h1,g1,g2,g3⟩:=wZk he;refine⟨h1,g1,fun lit t u s=>?_, ?_⟩
    ·have hn:xZx (hc h) (VV.sref b off len cap ex c).cv=some (b,vs.length):=by
      simp only[xZx,VV.cv,zWd hb,hany,ha,if_true,Qg]
     unfold zJs;rw[hn];simp only[g2]
    ·have ht:xW4 h (VV.sref b off len cap ex c)=b::vs.flatMap blkA:=by
      simp only[xW4,hb,ha]
     rw[ht];refine g3 _ (Jc ..) fun vs1 h2 v hv hs y hy=>?_
     rw[hb]at h2;simp only[Qd,VObj.cells.injEq]at h2;subst h2;exact Qt _ (Jm.2 ⟨v,hv,by unfold blkA;rw[hs];exact hy⟩)
   ·rename_i ha
    exact none_ok (by simp only[xZx,VV.cv,zWd hb,hany,ha];simp) he
  ·rename_i hno
   refine none_ok ?_ he;simp only[xZx,VV.cv];cases hb:h[b]? with
   |none=>rw[zQy,hb];rfl
   |some o=>
    rw[zQy,hb];cases o<;>simp only[Jn,VObj.ho]
    ·exact absurd hb (hno _)
    ·rw[wJj];simp
 ·rename_i hno
  refine none_ok ?_ he;have h1:=wXo x;unfold xZx;split
  ·rename_i e
   rw[e]at h1;cases x<;>simp[srA,zKc]at h1;exact absurd rfl (hno _ _ _ _ _ _)
  ·rfl
theorem vZ2{e:TypeId}{j:TI}{d:TypeDesc}{x:VV}{c:C}{K:List (El c)→Option β}(he:ysV ty h e j d x c K=some r):∃ys,K ys=some r∧appW (hc h) j d x.cv=some (ys.map (valC c)):=by
 unfold ysV at he;split at he
 ·rename_i hd
  obtain⟨ys,h1,e1⟩:=zZl he;refine⟨ys,h1, ?_⟩;unfold appW appC;rw[hd];simp[e1]
 ·rename_i hd
  split at he<;>(try (simp at he;done))
  rename_i hz;split at he<;>(try (simp at he;done))
  rename_i kn n;split at he<;>(try (simp at he;done))
  rename_i hzk;refine⟨_,he, ?_⟩;have hzk':=Z.wW5.1 hzk;unfold zeroW at hz;split at hz<;>(try (simp at hz;done))
  rename_i z hzv;have hw:=CV.same_eq _ _ hz;unfold appW appC;rw[if_pos hd];simp only[VV.cv,hzv];rw[if_pos hzk'];simp only[hd,if_true,List.map_replicate,hw]
theorem xWc{g:Bool}{t u:TypeId}{s x:VV}{K:VV→zQa→Option β}(he:yYf g ty h t u s x K=some r):
  ∃v h',K v h'=some r∧yK4 ty (hc h) t u s.cv x.cv=some (v.cv,hc h')∧zQd s.blk h h':=by
 unfold yYf at he;split at he<;>(try (simp at he;done))
 rename_i i iu hi hiu;split at he<;>(try (simp at he;done))
 rename_i e hd;split at he<;>(try (simp at he;done))
 rename_i j c hj hcc;split at he<;>(try (simp at he;done))
 rename_i hn1;obtain⟨ys,h1,e1⟩:=vZ2 he;have hfit:fitC j c=true:=zJv h1;obtain⟨xs,h2,e2⟩:=zZl h1;split at h2<;>(try (simp at h2;done))
 rename_i b off len cap ex c';split at h2<;>(try (simp at h2;done))
 rename_i c'' ds hb;split at h2<;>(try (simp at h2;done))
 rename_i hcc2;obtain⟨rfl,rfl⟩:=hcc2;split at h2<;>(try (simp at h2;done))
 rename_i hbig;obtain⟨f1,f2,f3⟩:=zXl hfit;have hones:((xs.map (valC c')++ys.map (valC c')).flatMap CV.flat).all CV.one=true:=by
  rw[←Qr,Qx];exact zW3 c' (xs++ys)
 have hbig':¬(2^44<((xs.map (valC c')).length+(ys.map (valC c')).length)*(j.bytes+1)∨(!((xs.map (valC c')++ys.map (valC c')).flatMap CV.flat).all CV.one)=true):=by
  rintro(h|h)
  ·exact hbig (by simpa only[Qg]using h)
  ·rw[hones]at h;exact absurd h (by decide)
 have e2':srcE (hc h) j (.sref c'.cells b (off*c'.cells) len cap ex)=some (xs.map (valC c')):=e2;unfold yK4;simp only[hi,hiu,hd,hj];rw[if_neg hn1];simp only[VV.cv,e1,e2',zWx hb]
 rw[if_neg hbig'];have hyl:(ys.map (valC c')).length=ys.length:=by simp
 rw[hyl];split at h2
 ·rename_i hle
  split at h2<;>(try (simp at h2;done))
  split at h2<;>(try (simp at h2;done))
  rename_i hin;replace hin:off+(len+ys.length)≤ds.length:=hin;refine⟨_,_,h2, ?_,zQd.set (by simp[VV.blk]) _⟩
  rw[if_pos hle];rw[if_pos (by rw[zQm,←Qv];exact Ql _ hin)]
  simp only[zQu,VObj.ho,VV.cv,Qd,Q9];refine⟨trivial, ?_⟩;congr 2;show zQh (vecC c' ds) _ _=vecC c' (zQh ds (off+len) ys);rw[zYy,Qv,Qx];rfl
 ·rename_i hle
  split at h2<;>(try (simp at h2;done))
  split at h2<;>(try (simp at h2;done))
  refine⟨_,_,h2, ?_,(zQd.refl _ _).push _⟩;rw[if_neg hle,if_pos rfl];have hflat:(xs.map (valC c')++ys.map (valC c')).flatMap CV.flat=vecC c' (xs++ys):=by
   rw[←Qr,Qx];rfl
  rw[hflat];simp[VV.cv,hc,VObj.ho,f2]
theorem wW2{t u:TypeId}{s x:VV}{K:VV→zQa→Option β}(he:xK1 ty h t u s x K=some r):
  ∃v h',K v h'=some r∧yK2 ty (hc h) t u s.cv x.cv=some (v.cv,hc h')∧zQd s.blk h h':=by
 unfold xK1 at he;split at he<;>(try (simp at he;done))
 rename_i i iu hi hiu;split at he<;>(try (simp at he;done))
 rename_i e hd;split at he<;>(try (simp at he;done))
 rename_i j c hj hcc;split at he<;>(try (simp at he;done))
 rename_i hn1;obtain⟨ys,h1,e1⟩:=vZ2 he;have hfit:fitC j c=true:=zJv h1;obtain⟨xs,h2,e2⟩:=zZl h1;split at h2<;>(try (simp at h2;done))
 rename_i b off len cap ex c';split at h2<;>(try (simp at h2;done))
 rename_i c'' ds hb;split at h2<;>(try (simp at h2;done))
 rename_i hcc2;obtain⟨rfl,rfl⟩:=hcc2;split at h2<;>(try (simp at h2;done))
 rename_i hbig;obtain⟨f1,f2,f3⟩:=zXl hfit;have hones:((xs.map (valC c')++ys.map (valC c')).flatMap CV.flat).all CV.one=true:=by
  rw[←Qr,Qx];exact zW3 c' (xs++ys)
 have hbig':¬(2^44<((xs.map (valC c')).length+(ys.map (valC c')).length)*(j.bytes+1)∨(!((xs.map (valC c')++ys.map (valC c')).flatMap CV.flat).all CV.one)=true):=by
  rintro(h|h)
  ·exact hbig (by simpa only[Qg]using h)
  ·rw[hones]at h;exact absurd h (by decide)
 have e2':srcE (hc h) j (.sref c'.cells b (off*c'.cells) len cap ex)=some (xs.map (valC c')):=e2;unfold yK2;simp only[hi,hiu,hd,hj];rw[if_neg hn1];simp only[VV.cv,e1,e2',zWx hb]
 rw[if_neg hbig'];have hyl:(ys.map (valC c')).length=ys.length:=by simp
 rw[hyl];split at h2
 ·rename_i hle
  refine⟨_,_,h2, ?_,zQd.set (by simp[VV.blk]) _⟩
  rw[if_pos hle];simp only[zQu,VObj.ho,VV.cv,Qd,Q9];refine⟨trivial, ?_⟩;congr 2;show zQh (vecC c' ds) _ _=vecC c' (zQh ds (off+len) ys);rw[zYy,Qv,Qx];rfl
 ·rename_i hle
  split at h2<;>(try (simp at h2;done))
  refine⟨_,_,h2, ?_,(zQd.refl _ _).push _⟩;rw[if_neg hle,if_pos rfl];have hflat:(xs.map (valC c')++ys.map (valC c')).flatMap CV.flat=vecC c' (xs++ys):=by
   rw[←Qr,Qx];rfl
  rw[hflat];simp[VV.cv,hc,VObj.ho,f2]
theorem vQ8{t:TypeId}{d s:VV}{K:VV→zQa→Option β}(he:vQ9 ty h t d s K=some r):
  ∃v h',K v h'=some r∧wKv ty (hc h) t d.cv s.cv=some (v.cv,hc h')∧zQd d.blk h h':=by
 unfold vQ9 at he;split at he<;>(try (simp at he;done))
 rename_i i hi;split at he<;>(try (simp at he;done))
 rename_i e hd;split at he<;>(try (simp at he;done))
 rename_i j c b off len cap ex c' b2 off2 len2 cap2 ex2 c2' hj hcc;split at he<;>(try (simp at he;done))
 rename_i c1 ds c2 ds2 hb hb2;split at he<;>(try (simp at he;done))
 rename_i hcs;obtain⟨rfl,rfl,rfl,rfl,hfit⟩:=hcs;split at he<;>(try (simp at he;done))
 rename_i g1;split at he<;>(try (simp at he;done))
 rename_i g2;obtain⟨f1,f2,f3⟩:=zXl hfit;replace g1:off2+min len2 len≤ds2.length:=g1;replace g2:off≤ds.length:=g2;refine⟨_,_,he, ?_,zQd.set (by simp[VV.blk]) _⟩
 unfold wKv;simp only[hi,hd,hj,VV.cv,zWx hb,zWx hb2];have hn:((vecC c2' ds2).drop (off2*c2'.cells)).take (min len2 len*c2'.cells)=vecC c2' ((ds2.drop off2).take (min len2 len)):=by
  rw[zWg,zW0]
 simp only[f2];rw[hn];rw[if_pos ⟨trivial,trivial,by rw[zQm,←Qv];exact Ql _ g1,by rw[zQm];exact Ql _ g2,zW3 _ _⟩]
 simp only[zQu,VObj.ho,Z.put,zYy,Z.seg,Z.minN,Z.ofN]
theorem vWd{t:TypeId}{s:VV}{K:VV→zQa→Option β}(he:vWe ty h t s K=some r):
  ∃v h',K v h'=some r∧xQ1 ty (hc h) t s.cv=some (v.cv,hc h')∧zQd s.blk h h':=by
 unfold vWe at he;split at he<;>(try (simp at he;done))
 rename_i i hi;split at he<;>(try (simp at he;done))
 rename_i e hd;split at he<;>(try (simp at he;done))
 rename_i j c hj hcc;split at he<;>(try (simp at he;done))
 rename_i hz;obtain⟨hz,hsz⟩:=hz;split at he<;>(try (simp at he;done))
 rotate_left
 ·rename_i b c' dd
  split at he<;>(try (simp at he;done))
  rename_i c'' dss hb;split at he<;>(try (simp at he;done))
  rename_i hcc2;obtain⟨rfl,rfl⟩:=hcc2;split at he<;>(try (simp at he;done))
  rename_i hx;replace hx:dd.xw dss=true:=hx;refine⟨_,_,he, ?_,zQd.set (by simp[VV.blk]) _⟩
  have hz':=CV.zXz _ _ hz;have hone:(j.zero.map wz).all CV.one=true:=by rw[←hz'];exact zZw c' _
  cases dd with
  |data _=>simp[MixE.xw]at hx
  |nil=>simp[MixE.xw]at hx
  |ref k off n gen=>
  simp only[MixE.xw,Qc,decide_eq_true_eq,beq_iff_eq]at hx;obtain⟨q1,q2,q3⟩:=hx;unfold xQ1;simp only[hi,hd,hj,VV.cv,valC,mixC,zKt hb q1 q2,yWe hb];rw[if_pos ⟨hsz.symm,by rw[zQm,←Qv];exact Ql _ (by omega),hone⟩]
  simp only[zQu,VObj.ho,VV.cvs,Qd,Q9];refine⟨trivial, ?_⟩;congr 2;show _=(dss.set k (zQh (dss.getD k []) off (List.replicate n (dfl c')))).map (vecC c');rw[Q3,zYy,zJ7,hz']
 rename_i b off len cap ex c';split at he<;>(try (simp at he;done))
 rename_i c'' ds hb;split at he<;>(try (simp at he;done))
 rename_i hcc2;obtain⟨rfl,rfl⟩:=hcc2;split at he<;>(try (simp at he;done))
 rename_i hle;replace hle:off+len≤ds.length:=hle;refine⟨_,_,he, ?_,zQd.set (by simp[VV.blk]) _⟩
 have hz':=CV.zXz _ _ hz;have hone:(j.zero.map wz).all CV.one=true:=by rw[←hz'];exact zZw c' _
 unfold xQ1;simp only[hi,hd,hj,VV.cv,zWx hb];rw[if_pos ⟨hsz.symm,by rw[zQm,←Qv];exact Ql _ hle,hone⟩]
 simp only[zQu,VObj.ho,VV.cvs,Qd,Q9];refine⟨trivial, ?_⟩;congr 2;show zQh (vecC c' ds) _ _=vecC c' (zQh ds off (List.replicate len (dfl c')));rw[zYy,zJ7,hz']
theorem vYs{x:VV}{b k o g:Nat}(h:x.cv=.gptr b k o g):∃b c d i o,x=.xptr b c d i o:=by
 cases x<;>first
  |exact⟨_,_,_,_,_,rfl⟩
  |(cases h;done)
  |(simp[VV.cv]at h;done)
  |(rename_i d;cases d<;>simp[VV.cv,valC,mixC]at h)
theorem xZc{t:TypeId}{x v:VV}{K:zQa→Option β}(he:wQc ty h t x v K=some r):∃h',K h'=some r∧zYe ty (hc h) t x.cv v.cv=some (hc h')∧zQd (x.blk++wJq x v) h h':=by
 have plain:(∀b c d i o b1 off len cap ex c1,¬(x=.xptr b c d i o∧v=.sref b1 off len cap ex c1))→yQt ty h t x v K=some r→∃h',K h'=some r∧zYe ty (hc h) t x.cv v.cv=some (hc h')∧zQd (x.blk++wJq x v) h h':=by
  intro hn hs;obtain⟨h',k1,k2,k3⟩:=yK7 hs;refine⟨h',k1, ?_,k3.mono fun y hy=>Qp _ hy⟩
  have e:zYe ty (hc h) t x.cv v.cv=zKq ty (hc h) t x.cv v.cv:=by
   unfold zYe;split
   ·rename_i e1 e2
    exfalso
    obtain⟨b,c,d,i,o,rfl⟩:=vYs e1;have hs:srA v=true:=by rw[←wXo,e2];rfl
    unfold srA at hs;split at hs<;>(try (simp at hs;done))
    exact hn _ _ _ _ _ _ _ _ _ _ _ ⟨rfl,rfl⟩
   ·rfl
  rw[e];exact k2
 unfold wQc at he;split at he
 ·rename_i b c d i o b1 off len cap ex c1
  split at he<;>(try (simp at he;done))
  rename_i c' ds hb1;split at he<;>(try (simp at he;done))
  rename_i hcond;obtain⟨rfl,q3,q4⟩:=hcond;split at he<;>(try (simp at he;done))
  rename_i hle;replace hle:off+len≤ds.length:=hle;obtain⟨h',k1,k2,k3⟩:=yK7 he;refine⟨h',k1, ?_,(zQd.set (m:=(VV.xptr b c d i o).blk++[b1]) (b:=b1) (by simp) .dead).trans (k3.mono fun y hy=>Qp _ hy) (fun _ h=>h)⟩
  have hflat:∀d:El c',(valC c' d).flat=[valC c' d]:=fun d=>by
   cases c'<;>simp[C.agg]at q4<;>first|rfl|exact zWj _ _ _ _
  have hvec:vecC c' ds=ds.map (valC c'):=by
   unfold vecC;rw[show(fun d=>(valC c' d).flat)=fun d=>[valC c' d]from funext hflat]
   exact(List.map_eq_flatMap ..).symm
  rw[zQu]at k2;simp only[VV.cv,zYe,zWx hb1];rw[if_pos ⟨q3,by rw[zQm,q3];omega,zW3 c' ds⟩]
  simp only[VObj.ho,VV.cv,q3]at k2;rw[←k2,hvec];simp[Z.seg,q3]
 ·rename_i hn
  exact plain (fun b c d i o b1 off len cap ex c1 hh=>hn _ _ _ _ _ _ _ _ _ _ _ hh.1 hh.2) he
theorem wQ0{lit:Nat}{ρ:Operand→VV}{ρc:Operand→CV}(hρ:∀x,ρc x=(ρ x).cv){o:Op}{K:VV→zQa→Option β}(he:opVL lit ty h ρ o K=some r):
  ∃v h',K v h'=some r∧opQ ty (hc h) (hc h).length ρc o=none∧opL ty lit (hc h) ρc o=some (v.cv,hc h')∧zQd (zK1 h ρ o) h h':=by
 cases o<;>simp only[opVL]at he<;>(try (simp at he;done))
 case store t a x=>
  obtain⟨h',k1,k2,k3⟩:=xZc he;exact⟨_,_,k1,rfl,by simp only[opL,hρ,k2];rfl,k3⟩
 case mapUpdate t m k v=>
  obtain⟨h',k1,k2,k3⟩:=xZz he;exact⟨_,_,k1,rfl,by simp only[opL,hρ,k2];rfl,k3⟩
 case call cl=>
  split at he<;>(try (simp at he;done))
  ·rename_i s x t u h1 h2 h3
   have hq:opQ ty (hc h) (hc h).length ρc (.call cl)=none:=by simp[opQ,yWp,h1,rdC]
   have fin:∀(lb:Bool) hf,(∀lit t u s,zJs lit ty (hc h) t u s (ρ x).cv=zXd lit ty (hc hf) t u s (ρ x).cv)→zQd (xW4 h (ρ x)) h hf→∀v h',zXd lb ty (hc hf) t u (ρ s).cv (ρ x).cv=some (VV.cv v,hc h')→zQd (ρ s).blk hf h'→
     opL ty (if lb then 1 else 0) (hc h) ρc (.call cl)=some (v.cv,hc h')∧zQd (zK1 h ρ (.call cl)) h h':=fun lb hf hfz hst v h' k2 k3=>by
    refine⟨by cases lb<;>simp only[opL,h1,h2,h3,hρ,hfz,if_true,Jf,if_false]<;>exact k2, ?_⟩
    simp only[zK1,h2,h1];exact(hst.mono fun y hy=>Qz _ hy).trans (k3.mono fun y hy=>Qp _ hy) fun _ h=>h
   have fix:∀{b:VV→Prop},True:=fun{_}=>trivial
   split at he
   ·obtain⟨hf,he,hfz,hst⟩:=wWh (ty:=ty) he
    split at he
    ·rename_i b c d hmx
     obtain⟨v,h',k1,k2,k3⟩:=yK1 (lit:=false) he;obtain⟨f1,f2⟩:=fin false hf hfz hst v h' (by rw[hmx];exact k2) (by
      rw[hmx];rcases k3 with rfl|⟨o,rfl⟩
      ·exact zQd.refl _ _
      ·exact zQd.set (by simp[VV.blk]) _)
     exact⟨_,_,k1,hq,f1,f2⟩
    ·split at he
     ·obtain⟨v,h',k1,k2,k3⟩:=xX3 he
      obtain⟨f1,f2⟩:=fin false hf hfz hst v h' k2 k3;exact⟨_,_,k1,hq,f1,f2⟩
     ·obtain⟨v,h',k1,k2,k3⟩:=xX4 he
      obtain⟨f1,f2⟩:=fin false hf hfz hst v h' k2 k3;exact⟨_,_,k1,hq,f1,f2⟩
   ·obtain⟨hf,he,hfz,hst⟩:=wWh (ty:=ty) he
    split at he
    ·rename_i b c d hmx
     obtain⟨v,h',k1,k2,k3⟩:=yK1 (lit:=true) he;obtain⟨f1,f2⟩:=fin true hf hfz hst v h' (by rw[hmx];exact k2) (by
      rw[hmx];rcases k3 with rfl|⟨o,rfl⟩
      ·exact zQd.refl _ _
      ·exact zQd.set (by simp[VV.blk]) _)
     exact⟨_,_,k1,hq,f1,f2⟩
    ·split at he
     ·obtain⟨v,h',k1,k2,k3⟩:=xWb he
      obtain⟨f1,f2⟩:=fin true hf hfz hst v h' k2 k3;exact⟨_,_,k1,hq,f1,f2⟩
     ·obtain⟨v,h',k1,k2,k3⟩:=yZ3 he
      obtain⟨f1,f2⟩:=fin true hf hfz hst v h' k2 k3;exact⟨_,_,k1,hq,f1,f2⟩
   ·obtain⟨hf,he,hfz,hst⟩:=wWh (ty:=ty) he
    have fin5:∀lb:Bool,(!wKl ty t)=lb→∀v h',zXd lb ty (hc hf) t u (ρ s).cv (ρ x).cv=some (VV.cv v,hc h')→zQd (ρ s).blk hf h'→
      opL ty 5 (hc h) ρc (.call cl)=some (v.cv,hc h')∧zQd (zK1 h ρ (.call cl)) h h':=fun lb hlb v h' k2 k3=>by
     refine⟨by simp only[opL,h1,h2,h3,hρ,hlb,hfz];exact k2, ?_⟩
     simp only[zK1,h2,h1];exact(hst.mono fun y hy=>Qz _ hy).trans (k3.mono fun y hy=>Qp _ hy) fun _ h=>h
    split at he
    ·rename_i b c d hmx
     obtain⟨v,h',k1,k2,k3⟩:=yK1 (lit:=!wKl ty t) he;obtain⟨f1,f2⟩:=fin5 _ rfl v h' (by rw[hmx];exact k2) (by
      rw[hmx];rcases k3 with rfl|⟨o,rfl⟩
      ·exact zQd.refl _ _
      ·exact zQd.set (by simp[VV.blk]) _)
     exact⟨_,_,k1,hq,f1,f2⟩
    ·split at he
     ·rename_i hn
      have hlb:(!wKl ty t)=false:=by rw[hn];rfl
      split at he
      ·obtain⟨v,h',k1,k2,k3⟩:=xX3 he
       obtain⟨f1,f2⟩:=fin5 _ hlb v h' k2 k3;exact⟨_,_,k1,hq,f1,f2⟩
      ·obtain⟨v,h',k1,k2,k3⟩:=xX4 he
       obtain⟨f1,f2⟩:=fin5 _ hlb v h' k2 k3;exact⟨_,_,k1,hq,f1,f2⟩
     ·rename_i hn
      have hlb:(!wKl ty t)=true:=by rw[hn];rfl
      split at he
      ·obtain⟨v,h',k1,k2,k3⟩:=xWb he
       obtain⟨f1,f2⟩:=fin5 _ hlb v h' k2 k3;exact⟨_,_,k1,hq,f1,f2⟩
      ·obtain⟨v,h',k1,k2,k3⟩:=yZ3 he
       obtain⟨f1,f2⟩:=fin5 _ hlb v h' k2 k3;exact⟨_,_,k1,hq,f1,f2⟩
   ·obtain⟨v,h',k1,k2,k3⟩:=xWc he
    refine⟨_,_,k1,hq, ?_, ?_⟩
    ·simp only[opL,h1,h2,h3,hρ]
     exact k2
    ·simp only[zK1,h2,h1]
     exact k3.mono fun y hy=>Qp _ hy
   ·obtain⟨v,h',k1,k2,k3⟩:=wW2 he
    refine⟨_,_,k1,hq, ?_, ?_⟩
    ·simp only[opL,h1,h2,h3,hρ]
     exact k2
    ·simp only[zK1,h2,h1]
     exact k3.mono fun y hy=>Qp _ hy
   ·rename_i hl0 hl1 hl5 hl2 hl4
    obtain⟨v,h',k1,k2,k3⟩:=xWc he;refine⟨_,_,k1,hq, ?_, ?_⟩
    ·simp only[opL,h1,h2,h3,hρ]
     match lit,hl0,hl1,hl4,hl5 with
     |0,hl0,_,_,_=>exact absurd rfl hl0
     |1,_,hl1,_,_=>exact absurd rfl hl1
     |4,_,_,hl4,_=>exact absurd rfl hl4
     |5,_,_,_,hl5=>exact absurd rfl hl5
     |2,_,_,_,_=>exact k2
     |3,_,_,_,_=>exact k2
     |n+6,_,_,_,_=>exact k2
    ·simp only[zK1,h2,h1]
     exact k3.mono fun y hy=>Qp _ hy
  ·rename_i s t h1 h2 h3
   obtain⟨v,h',k1,k2,k3⟩:=vWd he;refine⟨_,_,k1, ?_, ?_, ?_⟩
   ·simp[opQ,yWp,h1,rdC]
   ·simp only[opL,h1,h2,h3,hρ];exact k2
   ·simp only[zK1,h2];exact k3
  ·rename_i s x t u h1 h2 h3
   split at he
   ·obtain⟨v,h',k1,k2,k3⟩:=vQ8 he
    refine⟨_,_,k1, ?_, ?_, ?_⟩
    ·simp[opQ,yWp,h1,rdC]
    ·simp only[opL,h1,h2,h3,hρ];exact k2
    ·simp only[zK1,h2,h1];exact k3
   ·rename_i hl4
    obtain⟨v,h',k1,k2,k3⟩:=wWv he;refine⟨_,_,k1, ?_, ?_, ?_⟩
    ·simp[opQ,yWp,h1,rdC]
    ·simp only[opL,h1,h2,h3,hρ]
     match lit,hl4 with
     |0,_=>exact k2
     |1,_=>exact k2
     |2,_=>exact k2
     |3,_=>exact k2
     |4,hl4=>exact absurd rfl hl4
     |n+5,_=>exact k2
    ·simp only[zK1,h2,h1];exact k3
theorem set_self{α:Type}{l:List α}{i:Nat}{x:α}(h:l[i]?=some x):l.set i x=l:=by
 apply Ji;intro j;by_cases hj:j=i
 ·subst hj
  rw[Qj (Qa.1 h).1,h]
 ·rw[Qe (Ne.symm hj)]
theorem wZ1{ops:Array Oper}{t:List VV}{o:Oper}{K:List VV→Bool→Option β}(he:xY7 ops t o K=some r):∃b,K t b=some r∧zWe ops (t.map VV.cv) o=some b:=by
 unfold xY7 at he;unfold zWe;split at he
 ·rename_i hg;exact⟨_,he,by simp[hg]⟩
 ·rename_i j want hg
  simp only[hg];split at he
  ·rename_i hd;exact⟨_,he,by simp[hd]⟩
  ·rename_i d hd
   simp only[hd,Qu];split at he<;>(try (simp at he;done))
   ·rename_i b ht
    simp only[ht,Jn,VV.cv];split at he
    ·rw[set_self ht]at he;exact⟨_,he,rfl⟩
    ·rw[set_self ht]at he;exact⟨_,he,rfl⟩
   ·rename_i ht;exact⟨_,he,by simp[ht,VV.cv,zWk]⟩
   ·rename_i ht;exact⟨_,he,by simp[ht,VV.cv]⟩
   ·rename_i ht;exact⟨_,he,by simp[ht]⟩
theorem zZd(t:List VV)(d:Option Tmp)(v:VV):(putV t d v).map VV.cv=putC (t.map VV.cv) d v.cv:=by
 cases d<;>simp[putV,putC,Q3]
end
def CW(c c':CV):Prop:=∀(φ:Phi) (St:Stab) (w:World) (u:Value),VR φ St w c u→VR φ St w c' u
theorem CW.refl(c:CV):CW c c:=fun _ _ _ _ h=>h
theorem CW.junk(c:CV):CW c .junk:=fun _ _ _ _ _=>.junk _
def CWs(cs cs':List CV):Prop:=cs.length=cs'.length∧∀(i:Nat) (c c':CV),cs[i]?=some c→cs'[i]?=some c'→CW c c'
theorem CWs.vrl{cs cs':List CV}(h:CWs cs cs'){φ:Phi}{St:Stab}{w:World}{us:List Value}(hu:VRL φ St w cs us):VRL φ St w cs' us:=by
 have hl:=hu.length;refine VRL.wX6 (by rw[←h.1,hl]) fun j c v hc hv=>?_
 have hj:j<cs.length:=by rw[h.1];exact(Qa.1 hc).1
 obtain⟨v',e1,e2⟩:=hu.get j cs[j] (Qm hj);rw[hv]at e1;simp at e1;subst e1;exact h.2 j _ _ (Qm hj) hc _ _ _ _ e2
theorem CW.slice(esz:Nat)(xs:List CV)(tok:Option Nat)(full:Bool):CW (.slice esz xs tok full) (.slice esz xs none false):=by
 intro φ St w u h;cases h with|slice _ _ _ _ a cap vs hat hvs hsz hcap hfull htok=>exact .slice _ _ _ _ _ _ vs hat hvs hsz hcap (fun h=>by simp at h) trivial
theorem CW.nsl(esz:Nat):CW (.slice 0 [] none true) (.slice esz [] none false):=by
 intro φ St w u h;cases h with|slice _ _ _ _ a cap vs hat hvs hsz hcap hfull htok=>exact .slice _ _ _ _ _ _ vs (.inl rfl) hvs (by simp) hcap (fun h=>by simp at h) trivial
theorem CW.nslF(esz:Nat)(full:Bool):CW (.slice 0 [] none true) (.slice esz [] none full):=by
 intro φ St w u h;cases h with|slice _ _ _ _ a cap vs hat hvs hsz hcap hfull htok=>exact .slice _ _ _ _ _ _ vs (.inl rfl) hvs (by simp) hcap (fun _=>hfull rfl) trivial
theorem CW.agg{cs cs':List CV}(h:∀φ St w us,VRL φ St w cs us→VRL φ St w cs' us):CW (.agg cs) (.agg cs'):=by
 intro φ St w u hu;cases hu with|agg _ vs hv=>exact .agg _ _ (h _ _ _ _ hv)
def VW(cs cs':List CV):Prop:=∀φ St w us,VRL φ St w cs us→VRL φ St w cs' us
theorem VW.refl(cs:List CV):VW cs cs:=fun _ _ _ _ h=>h
theorem VW.one{c c':CV}(h:CW c c'):VW [c] [c']:=by
 intro φ St w us hu;cases hu with|cons _ v _ vs h1 h2=>cases h2;exact .cons _ _ _ _ (h _ _ _ _ h1) .nil
theorem VW.append{as as' bs bs':List CV}(h:VW as as')(k:VW bs bs'):VW (as++bs) (as'++bs'):=by
 intro φ St w us hu;have hl:=hu.length;rw[Q6]at hl;have h1:=hu.take as.length;have h2:=hu.drop as.length;simp only[Kh,Ki]at h1 h2;rw[←Q1 as.length us];exact(h _ _ _ _ h1).append (k _ _ _ _ h2)
mutual
theorem yJo:∀{c:C} {v:VV} {d:El c},deW c v=some d→CW v.cv (valC c d)
 | .bool,v,d,h=>by
  simp only[deW]at h;split at h<;>simp at h;subst h;exact CW.refl _
 | .int k,v,d,h=>by
  simp only[deW]at h;split at h<;>(try (simp at h;done))
  split at h<;>simp at h;rename_i hk;subst hk;subst h;exact CW.refl _
 | .str,v,d,h=>by
  simp only[deW]at h;split at h<;>simp at h;subst h;exact CW.refl _
 | .list c,v,d,h=>by
  simp only[deW]at h;split at h<;>(try (simp at h;done))
  ·split at h<;>simp at h
   rename_i hk;subst hk;subst h;exact CW.slice _ _ _ _
  ·simp at h;subst h;exact CW.nsl _
 | .unit,v,d,h=>by
  simp only[deW]at h;split at h<;>(try (simp at h;done))
  simp only[VV.cv,VV.zQt];exact CW.agg (yX2 h)
 | .pair a b,v,d,h=>by
  simp only[deW]at h;split at h<;>(try (simp at h;done))
  simp only[VV.cv,VV.zQt];exact CW.agg (yX2 h)
 | .arr n c,v,d,h=>by
  simp only[deW]at h;split at h<;>(try (simp at h;done))
  ·split at h<;>(try (simp at h;done))
   rename_i hk;subst hk;split at h<;>simp at h;rename_i hk;subst hk;subst h;exact CW.refl _
  ·simp only[VV.cv,VV.zQt,wW1 h]
   exact CW.refl _
 | .mix b c,v,d,h=>by
  simp only[deW]at h;split at h<;>(try (simp at h;done))
  ·split at h<;>simp at h
   rename_i hk;obtain⟨rfl,rfl⟩:=hk;subst h;exact CW.refl _
  ·split at h
   ·simp at h
    rename_i hk;subst hk;subst h;exact CW.slice _ _ _ _
   ·split at h<;>(try (simp at h;done))
    split at h<;>simp at h;obtain⟨hk,rfl⟩:=h;intro φ St w u hu;simp only[VV.cv,Qy]at hu;cases hu with|slice _ _ _ _ a cap vs hat hvs hsz hcap hfull htok=>exact .slice _ _ _ _ _ _ vs (.inl rfl) hvs (by simp) hcap (fun h=>by simp at h) trivial
  ·simp at h;subst h;exact CW.refl _
theorem yX2:∀{c:C} {vs:List VV} {d:El c},deWs c vs=some d→VW (vs.map VV.cv) (valC c d).flat
 | .unit,vs,d,h=>by
  simp only[deWs]at h;split at h<;>simp at h;exact VW.refl _
 | .pair a b,vs,d,h=>by
  simp only[deWs]at h;split at h<;>simp at h;rename_i x y hx hy;subst h;rw[←Q1 a.cells vs,Qr];exact VW.append (yX2 hx) (yX2 hy)
 | .arr n c,vs,d,h=>by
  simp only[deWs]at h;rw[wW1 h];exact VW.refl _
 | .bool,vs,d,h=>by
  simp only[deWs]at h;split at h<;>simp at h;subst h;exact VW.refl _
 | .int k,vs,d,h=>by
  simp only[deWs]at h;split at h<;>(try (simp at h;done))
  split at h<;>simp at h;rename_i hk;subst hk;subst h;exact VW.refl _
 | .str,vs,d,h=>by
  simp only[deWs]at h;split at h<;>simp at h;subst h;exact VW.refl _
 | .list c,vs,d,h=>by
  simp only[deWs]at h;split at h<;>(try (simp at h;done))
  ·split at h<;>simp at h
   rename_i hk;subst hk;subst h;exact VW.one (CW.slice _ _ _ _)
  ·simp at h;subst h;exact VW.one (CW.nsl _)
 | .mix b c,vs,d,h=>by
  simp only[deWs]at h;split at h<;>(try (simp at h;done))
  ·split at h<;>simp at h
   rename_i hk;obtain⟨rfl,rfl⟩:=hk;subst h;simp only[Qh,Qy,VV.cv,valC,zWj];exact VW.one (CW.refl _)
  ·split at h
   ·simp at h
    rename_i hk;subst hk;subst h;exact VW.one (CW.slice _ _ _ _)
   ·split at h<;>(try (simp at h;done))
    split at h<;>simp at h;obtain⟨hk,rfl⟩:=h;refine VW.one fun φ St w u hu=>?_
    simp only[VV.cv,Qy]at hu;cases hu with|slice _ _ _ _ a cap vs hat hvs hsz hcap hfull htok=>exact .slice _ _ _ _ _ _ vs (.inl rfl) hvs (by simp) hcap (fun h=>by simp at h) trivial
  ·simp at h;subst h;exact VW.one (CW.refl _)
end
theorem SK.get_cw{s:SK}{v:VV}{d:s.D}(h:s.get v=some d):CW v.cv (s.put d).cv:=by
 cases s with
 |val c=>simp only[SK.put,zQq];exact yJo h
 | slt c tok full=>
  simp only[SK.get]at h;split at h<;>(try (simp at h;done))
  ·split at h<;>(try (simp at h;done))
   rename_i hk;subst hk;split at h<;>simp at h;rename_i hcond;subst h;obtain⟨h1,h2⟩:=hcond;intro φ St w u hu;simp only[SK.put,VV.cv]at hu⊢;cases hu with|slice _ _ _ _ a cap vs hat hvs hsz hcap hfull htok=>
   refine .slice _ _ _ _ _ _ vs hat hvs hsz hcap ?_ ?_
   ·intro hf;rcases h2 with h2|h2
    ·rw[h2]at hf;simp at hf
    ·exact hfull (by rw[h2];exact hf)
   ·rcases h1 with h1|h1
    ·subst h1;trivial
    ·subst h1;exact htok
  ·split at h<;>simp at h
   rename_i hk;subst hk;subst h;simp only[SK.put,VV.cv,Qy];exact CW.nslF _ _
 |sref b ex c=>
  simp only[SK.get]at h;split at h<;>(try (simp at h;done))
  split at h<;>simp at h;rename_i hcond;obtain⟨rfl,rfl,rfl⟩:=hcond;subst h;exact CW.refl _
theorem SK.xQu{s:SK}{v:VV}{d:s.D}(h:s.getX v=some d):v.cv=(s.put d).cv:=by
 cases s with
 | val c=>
  simp only[SK.getX]at h;split at h<;>(try (simp at h;done))
  ·split at h<;>simp at h;subst h;rfl
  ·split at h<;>(try (simp at h;done))
   split at h<;>simp at h;rename_i hk;subst hk;subst h;rfl
  ·split at h<;>simp at h;subst h;rfl
  ·split at h<;>(try (simp at h;done))
   split at h<;>simp at h;rename_i hk;subst hk;subst h;rfl
  ·split at h<;>(try (simp at h;done))
   ·split at h<;>simp at h
    rename_i hk;obtain⟨rfl,rfl⟩:=hk;subst h;rfl
   ·split at h<;>simp at h
    rename_i hk;subst hk;subst h;rfl
   ·simp at h;subst h;rfl
 |slt c tok full=>
  simp only[SK.getX]at h;split at h<;>(try (simp at h;done))
  split at h<;>(try (simp at h;done))
  rename_i hk;subst hk;split at h<;>simp at h;rename_i hk;obtain⟨rfl,rfl⟩:=hk;subst h;rfl
 |sref b ex c=>
  simp only[SK.getX]at h;split at h<;>(try (simp at h;done))
  split at h<;>simp at h;rename_i hcond;obtain⟨rfl,rfl,rfl⟩:=hcond;subst h;rfl
theorem SKs.xQu:∀{l:List SK} {vs:List VV} {d:SKs l},SKs.getX l vs=some d→vs.map VV.cv=(SKs.put l d).map VV.cv
 |[],vs,d,h=>by simp only[SKs.getX]at h;split at h<;>simp at h;rfl
 |[s],vs,d,h=>by
  simp only[SKs.getX]at h;split at h<;>(try (simp at h;done))
  simp[SKs.put,SK.xQu h]
 |s::u::l,vs,d,h=>by
  simp only[SKs.getX]at h;split at h<;>(try (simp at h;done))
  split at h<;>simp at h;rename_i x y h1 h2;subst h;have:=SKs.xQu h2;simp only[Qh,SKs.put,SK.xQu h1]at this⊢;rw[this]
end Go.Eng
