/- The clean values and heap, and how they stand for the model's. -/
import Derived.Test.YtjfiojmfcpeaoaaEX
import Derived.Calls
import Derived.Laws.World
import Derived.Laws.Sem
import Derived.Below
namespace Go.Eng

/-- Clean values. -/
inductive CV where
  | junk
  | bool (b : Bool)
  | int (k : IntKind) (n : Int)
  | str (s : List UInt8)
  | nilptr
  | ptr (b off : Nat)
  | rop (v : CV)
  | slice (esz : Nat) (xs : List CV) (tok : Option Nat) (full : Bool)
  | sref (esz b off len cap : Nat) (ex : Bool)
  | map (b : Nat)
  | nilmap
  | func (f : FuncId) (first captured : List CV)
  | yield (l : Nat)
  | nilfunc
  | iface (t : TypeId) (v : CV)
  | niliface
  | agg (cs : List CV)
  | tuple (vs : List CV)
  deriving Inhabited

def CV.flat : CV → List CV
  | .agg cs => cs
  | v => [v]

/-- What a clean block is in the world. -/
inductive Ent where
  | own (r base size : Nat)
  | tail (r used u size : Nat)
  | obj (r : Nat)
  | void (u : Nat)
  | dead

def Ent.blk : Ent → Option Nat
  | .own r _ _ => some r
  | .tail r _ _ _ => some r
  | .obj r => some r
  | .void _ => none
  | .dead => none

abbrev Phi := Nat → Option Ent
abbrev Stab := Nat → Nat → Prop

/-- Cells from a place on that hold these values, and stay so. -/
def At (St : Stab) (w : World) (a : Addr) (vs : List Value) : Prop :=
  a.spot = none ∧ ∀ j v, vs[j]? = some v → St a.block (a.off + j) ∧ w.cell? ⟨a.block, a.off + j, none⟩ = some v

def TokOk (φ : Phi) (tok : Option Nat) (a : Option Addr) (len esz cap : Nat) : Prop :=
  match tok with
  | none => True
  | some k => φ k ≠ none ∧ (∀ u, φ k = some (.void u) → len ≤ u ∧ (len = u → cap = len)) ∧ ∀ r used u size, φ k = some (.tail r used u size) → len ≤ u ∧
      (len = u → ∃ a', a = some a' ∧ a'.spot = none ∧ a'.block = r ∧ a'.off + len * esz = used ∧ a'.off + cap * esz ≤ size)

mutual
inductive VR (φ : Phi) (St : Stab) (w : World) : CV → Value → Prop where
  | junk (v : Value) : VR φ St w .junk v
  | bool (b : Bool) : VR φ St w (.bool b) (.bool b)
  | int (k : IntKind) (n : Int) : VR φ St w (.int k n) (.int k n)
  | str (s : List UInt8) (t : ByteArray) (h : t.data.toList = s) : VR φ St w (.str s) (.string t)
  | nilptr : VR φ St w .nilptr (.pointer none)
  | ptr (b off r base size : Nat) (h : φ b = some (.own r base size)) : VR φ St w (.ptr b off) (.pointer (some ⟨r, base + off, none⟩))
  | ptrDead (b off : Nat) (a : Addr) (h : φ b = some .dead) : VR φ St w (.ptr b off) (.pointer (some a))
  | rop (c : CV) (a : Addr) (vs : List Value) (hat : At St w a vs) (hvs : VRL φ St w c.flat vs) : VR φ St w (.rop c) (.pointer (some a))
  | slice (esz : Nat) (xs : List CV) (tok : Option Nat) (full : Bool) (a : Option Addr) (cap : Nat) (vs : List Value)
      (hat : xs = [] ∨ ∃ a', a = some a' ∧ At St w a' vs) (hvs : VRL φ St w (xs.flatMap CV.flat) vs) (hsz : ∀ x ∈ xs, x.flat.length = esz)
      (hcap : xs.length ≤ cap) (hfull : full = true → cap = xs.length) (htok : TokOk φ tok a xs.length esz cap) : VR φ St w (.slice esz xs tok full) (.slice a xs.length cap)
  | sref (esz b off len cap : Nat) (ex : Bool) (r base size rcap : Nat) (h : φ b = some (.own r base size)) (hcap : cap ≤ rcap) (hlen : len ≤ cap)
      (hex : ex = true → rcap = cap) (hsize : base + off + rcap * esz ≤ size) : VR φ St w (.sref esz b off len cap ex) (.slice (some ⟨r, base + off, none⟩) len rcap)
  | srefDead (esz b off len cap : Nat) (ex : Bool) (a : Addr) (rcap : Nat) (h : φ b = some .dead) : VR φ St w (.sref esz b off len cap ex) (.slice (some a) len rcap)
  | map (b r : Nat) (h : φ b = some (.obj r)) : VR φ St w (.map b) (.map (some r))
  | mapDead (b r : Nat) (h : φ b = some .dead) : VR φ St w (.map b) (.map (some r))
  | nilmap : VR φ St w .nilmap (.map none)
  | func (f : FuncId) (xs ys : List CV) (us vs : List Value) (hu : VRL φ St w xs us) (hv : VRL φ St w ys vs) :
      VR φ St w (.func f xs ys) (.func (.func f) us.toArray vs.toArray)
  | yield (l r : Nat) (h : φ l = some (.obj r)) : VR φ St w (.yield l) (.func (.yield r) #[] #[])
  | yieldDead (l r : Nat) (h : φ l = some .dead) : VR φ St w (.yield l) (.func (.yield r) #[] #[])
  | nilfunc : VR φ St w .nilfunc .nilFunc
  | iface (t : TypeId) (c : CV) (v : Value) (h : VR φ St w c v) : VR φ St w (.iface t c) (.iface t v)
  | niliface : VR φ St w .niliface .nilIface
  | agg (cs : List CV) (vs : List Value) (h : VRL φ St w cs vs) : VR φ St w (.agg cs) (.agg vs.toArray)
  | tuple (cs : List CV) (vs : List Value) (h : VRL φ St w cs vs) : VR φ St w (.tuple cs) (.tuple vs.toArray)
inductive VRL (φ : Phi) (St : Stab) (w : World) : List CV → List Value → Prop where
  | nil : VRL φ St w [] []
  | cons (c : CV) (v : Value) (cs : List CV) (vs : List Value) (h : VR φ St w c v) (hs : VRL φ St w cs vs) : VRL φ St w (c :: cs) (v :: vs)
end

/-- How an entry may change. -/
inductive Ent.le : Option Ent → Option Ent → Prop where
  | fresh (x : Option Ent) : Ent.le none x
  | same (e : Ent) : Ent.le (some e) (some e)
  | die (e : Ent) : Ent.le (some e) (some .dead)
  | fill (u0 r used u size : Nat) (h : u0 < u) : Ent.le (some (.void u0)) (some (.tail r used u size))
  | grow (r used u size r' used' u' size' : Nat) (h : u < u') : Ent.le (some (.tail r used u size)) (some (.tail r' used' u' size'))

theorem Ent.le.refl (x : Option Ent) : Ent.le x x := by
  cases x with
  | none => exact .fresh _
  | some e => exact .same e
theorem Ent.le.trans {x y z : Option Ent} (h : Ent.le x y) (k : Ent.le y z) : Ent.le x z := by
  cases h with
  | fresh => exact .fresh _
  | same => exact k
  | die => cases k with
    | same => exact .die _
    | die => exact .die _
  | fill u0 r used u size hu => cases k with
    | same => exact .fill _ _ _ _ _ hu
    | die => exact .die _
    | grow _ _ _ _ _ _ _ _ h' => exact .fill _ _ _ _ _ (by omega)
  | grow r used u size r' used' u' size' hu => cases k with
    | same => exact .grow _ _ _ _ _ _ _ _ hu
    | die => exact .die _
    | grow _ _ _ _ _ _ _ _ h' => exact .grow _ _ _ _ _ _ _ _ (by omega)
theorem Ent.le.own {x : Option Ent} {r base size : Nat} (h : Ent.le (some (.own r base size)) x) : x = some (.own r base size) ∨ x = some .dead := by
  cases h <;> simp
theorem Ent.le.obj {x : Option Ent} {r : Nat} (h : Ent.le (some (.obj r)) x) : x = some (.obj r) ∨ x = some .dead := by
  cases h <;> simp
theorem Ent.le.dead {x : Option Ent} (h : Ent.le (some .dead) x) : x = some .dead := by
  cases h <;> rfl

/-- All that a step may have changed, as values see it. -/
structure Mono (φ : Phi) (St : Stab) (w : World) (φ' : Phi) (St' : Stab) (w' : World) : Prop where
  ext : ∀ b, Ent.le (φ b) (φ' b)
  st : ∀ r j, St r j → St' r j
  keep : ∀ r j, St r j → w'.cell? ⟨r, j, none⟩ = w.cell? ⟨r, j, none⟩

theorem Mono.refl (φ : Phi) (St : Stab) (w : World) : Mono φ St w φ St w := ⟨fun _ => .refl _, fun _ _ h => h, fun _ _ _ => rfl⟩
theorem Mono.trans {φ φ' φ'' : Phi} {St St' St'' : Stab} {w w' w'' : World} (h : Mono φ St w φ' St' w') (k : Mono φ' St' w' φ'' St'' w'') : Mono φ St w φ'' St'' w'' :=
  ⟨fun b => (h.ext b).trans (k.ext b), fun r j x => k.st r j (h.st r j x), fun r j x => (k.keep r j (h.st r j x)).trans (h.keep r j x)⟩

theorem At.mono {φ φ' : Phi} {St St' : Stab} {w w' : World} (m : Mono φ St w φ' St' w') {a : Addr} {vs : List Value} (h : At St w a vs) : At St' w' a vs :=
  ⟨h.1, fun j v hv => let ⟨x, y⟩ := h.2 j v hv; ⟨m.st _ _ x, (m.keep _ _ x).trans y⟩⟩

theorem TokOk.mono {φ φ' : Phi} (ext : ∀ b, Ent.le (φ b) (φ' b)) {tok : Option Nat} {a : Option Addr} {len esz cap : Nat} (h : TokOk φ tok a len esz cap) :
    TokOk φ' tok a len esz cap := by
  unfold TokOk at *
  cases tok with
  | none => trivial
  | some k =>
    simp only at *
    obtain ⟨hn, hv, h⟩ := h
    have e := ext k
    cases hk : φ k with
    | none => exact absurd hk hn
    | some x =>
      rw [hk] at e
      refine ⟨?_, ?_, ?_⟩
      · intro hc; rw [hc] at e; cases e
      · intro u0 hc; rw [hc] at e; cases e; exact hv _ hk
      · intro r used u size hk'
        rw [hk'] at e
        cases e with
        | same => exact h _ _ _ _ hk
        | fill _ _ _ _ _ hu => have := (hv _ hk).1; exact ⟨by omega, fun hh => by omega⟩
        | grow r0 used0 u0 size0 _ _ _ _ hu =>
          have := (h _ _ _ _ hk).1
          exact ⟨by omega, fun hh => by omega⟩

theorem VR.mono {φ φ' : Phi} {St St' : Stab} {w w' : World} (m : Mono φ St w φ' St' w') {c : CV} {v : Value} (h : VR φ St w c v) : VR φ' St' w' c v := by
  refine VR.rec (motive_1 := fun c v _ => VR φ' St' w' c v) (motive_2 := fun c v _ => VRL φ' St' w' c v) ?junk ?bool ?int ?str ?nilptr ?ptr ?ptrDead ?rop ?slice ?sref ?srefDead ?map ?mapDead
    ?nilmap ?func ?yield ?yieldDead ?nilfunc ?iface ?niliface ?agg ?tuple ?nil ?cons h
  case junk => exact fun _ => .junk _
  case bool => exact fun _ => .bool _
  case int => exact fun _ _ => .int _ _
  case str => exact fun s t h => .str s t h
  case nilptr => exact .nilptr
  case ptr =>
    intro b off r base size h
    have e := m.ext b; rw [h] at e
    rcases e.own with e | e
    · exact .ptr _ _ _ _ _ e
    · exact .ptrDead _ _ _ e
  case ptrDead => intro b off _ h; have e := m.ext b; rw [h] at e; exact .ptrDead _ _ _ e.dead
  case rop => intro c a vs hat _ hvs; exact .rop c a vs (hat.mono m) hvs
  case slice =>
    intro esz xs tok full a cap vs hat _ hsz hcap hfull htok hvs
    exact .slice esz xs tok full a cap vs (hat.imp id fun ⟨a', e, h⟩ => ⟨a', e, h.mono m⟩) hvs hsz hcap hfull (htok.mono m.ext)
  case sref =>
    intro esz b off len cap ex r base size rcap h h1 h2 h3 h4
    have e := m.ext b; rw [h] at e
    rcases e.own with e | e
    · exact .sref _ _ _ _ _ _ _ _ _ _ e h1 h2 h3 h4
    · exact .srefDead _ _ _ _ _ _ _ _ e
  case srefDead => intro esz b off len cap ex _ _ h; have e := m.ext b; rw [h] at e; exact .srefDead _ _ _ _ _ _ _ _ e.dead
  case map =>
    intro b r h
    have e := m.ext b; rw [h] at e
    rcases e.obj with e | e
    · exact .map _ _ e
    · exact .mapDead _ _ e
  case mapDead => intro b _ h; have e := m.ext b; rw [h] at e; exact .mapDead _ _ e.dead
  case nilmap => exact .nilmap
  case func => intro f xs ys us vs _ _ hu hv; exact .func f xs ys us vs hu hv
  case yield =>
    intro l r h
    have e := m.ext l; rw [h] at e
    rcases e.obj with e | e
    · exact .yield _ _ e
    · exact .yieldDead _ _ e
  case yieldDead => intro l _ h; have e := m.ext l; rw [h] at e; exact .yieldDead _ _ e.dead
  case nilfunc => exact .nilfunc
  case iface => intro t c v _ h; exact .iface t c v h
  case niliface => exact .niliface
  case agg => intro cs vs _ h; exact .agg cs vs h
  case tuple => intro cs vs _ h; exact .tuple cs vs h
  case nil => exact .nil
  case cons => intro c v cs vs _ _ h hs; exact .cons c v cs vs h hs

theorem VRL.mono {φ φ' : Phi} {St St' : Stab} {w w' : World} (m : Mono φ St w φ' St' w') {c : List CV} {v : List Value} (h : VRL φ St w c v) : VRL φ' St' w' c v := by
  induction c generalizing v with
  | nil => cases h; exact .nil
  | cons c cs ih => cases h with | cons _ v _ vs h hs => exact .cons c v cs vs (VR.mono m h) (ih hs)

end Go.Eng
