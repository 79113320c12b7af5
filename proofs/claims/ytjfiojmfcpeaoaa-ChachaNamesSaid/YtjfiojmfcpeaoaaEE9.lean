/- The other operations. -/
import Derived.Test.YtjfiojmfcpeaoaaEE8
import GoSem.Builtin.Len
import GoSem.Builtin.Max
import GoSem.Builtin.Min
namespace Go.Eng
set_option linter.unusedVariables false

section
variable {P : Program} {N : Nat} {φ : Phi} {St : Stab} {h : Heap} {w : World}

def pickC (c a b : CV) : Option CV :=
  match c with
  | .bool t => some (if t then a else b)
  | _ => none

def unC (op : UnOp) (x : CV) : Option CV :=
  match op, x with
  | .not, .bool b => some (.bool !b)
  | .neg, .int k n => some (.int k (k.wrap (0 - n)))
  | .xor, .int k n => some (.int k (k.wrap (BitVec.ofInt k.bits (if k.signed then -1 else k.max) ^^^ BitVec.ofInt k.bits n).toNat))
  | _, _ => none

theorem unC_ok {op : UnOp} {x c : CV} (hc : unC op x = some c) {v : Value} (hx : VR φ St w x v) : ∃ r, (Op.unary op v).run P w = .ok r w ∧ VR φ St w c r := by
  unfold unC at hc
  split at hc <;> (try (simp at hc; done)) <;> (simp at hc; subst hc; cases hx)
  · exact ⟨_, rfl, .bool _⟩
  · exact ⟨.int _ _, rfl, by simp only [Int.zero_sub]; exact .int _ _⟩
  · exact ⟨_, rfl, .int _ _⟩

def fieldC (ty : Ty) (t : TypeId) (x : CV) (f : Nat) : Option CV :=
  match ty t, x with
  | some i, .agg cs => match i.desc with
    | .struct fs => match fs[f]? with
      | some fld => match ty fld.type with
        | some j => partC j cs fld.offset
        | none => none
      | none => none
    | _ => none
  | _, _ => none

def indexC (ty : Ty) (t : TypeId) (x ix : CV) : Option CV :=
  match ty t, ix with
  | some i, .int _ n =>
    match i.desc, x with
    | .array len e, .agg cs => match ty e with
      | some j => if 0 ≤ n ∧ n < len then partC j cs (n.toNat * j.size) else none
      | none => none
    | .string, .str s => if 0 ≤ n then (s[n.toNat]?).map fun b => .int .u8 b.toNat else none
    | _, _ => none
  | _, _ => none

def extractC (x : CV) (i : Nat) : Option CV :=
  match x with
  | .tuple vs => vs[i]?
  | _ => none

theorem extractC_ok {x c : CV} {i : Nat} (hc : extractC x i = some c) {v : Value} (hx : VR φ St w x v) : ∃ r, (Instr.extract v i).run P w = .ok r w ∧ VR φ St w c r := by
  unfold extractC at hc
  split at hc <;> (try (simp at hc; done))
  cases hx with | tuple cs vs hv =>
  obtain ⟨r, h1, h2⟩ := hv.get i c hc
  exact ⟨r, by simp [Instr.extract, h1], h2⟩

def nilCheckC (h : Heap) (x : CV) : Option CV :=
  match x with
  | .ptr b off => if live h b then some (.ptr b off) else none
  | .rop c => some (.rop c)
  | .func f xs ys => some (.func f xs ys)
  | .iface t c => some (.iface t c)
  | _ => none

/-- What a text's bytes are. -/
def bytesOf : List CV → Option (List UInt8)
  | [] => some []
  | .int .u8 n :: cs => match bytesOf cs with
    | some bs => some (UInt8.ofNat n.toNat :: bs)
    | none => none
  | _ => none

/-- Conversions that make, or read. -/
def convQ (ty : Ty) (h : Heap) (n : Nat) (s t : TypeId) (x : CV) : Option (CV × Option HObj) :=
  match ty s, ty t with
  | some i, some i' =>
    match i'.desc, x with
    | .int k, .int _ a => some (.int k (k.wrap a), none)
    | .string, .str b => some (.str b, none)
    | .slice e, .str b => match ty e with
      | some j => match j.desc with
        | .int .u8 => some (.sref 1 n 0 b.length b.length false, some (.cells (b.map fun c => .int .u8 c.toNat)))
        | _ => none
      | none => none
    | .slice e, .sref esz b off len cap ex => if s = t ∧ live h b then (match ty e with
      | some j => match j.desc with
        | .int .u8 => some (.sref esz b off len cap ex, none)
        | _ => none
      | none => none) else none
    | .string, x => match i.desc with
      | .slice e => match ty e with
        | some j => match j.desc with
          | .int .u8 => match srcE h j x with
            | some xs => (bytesOf xs).map fun b => (.str b, none)
            | none => none
          | _ => none
        | none => none
      | _ => none
    | _, _ => none
  | _, _ => none

def lenC (ty : Ty) (h : Heap) (t : TypeId) (x : CV) : Option CV :=
  match ty t with
  | none => none
  | some i =>
    match i.desc, x with
    | .string, .str s => some (.int .i64 s.length)
    | .array n _, _ => some (.int .i64 n)
    | .slice _, .slice _ xs _ _ => some (.int .i64 xs.length)
    | .slice _, .sref _ b _ len _ _ => if live h b then some (.int .i64 len) else none
    | .map _ _, .nilmap => some (.int .i64 0)
    | .map _ _, .map b => match h[b]? with
      | some (.map es) => some (.int .i64 es.length)
      | _ => none
    | .pointer a, _ => match ty a with
      | some j => match j.desc with
        | .array n _ => some (.int .i64 n)
        | _ => none
      | none => none
    | _, _ => none

def capC (ty : Ty) (h : Heap) (t : TypeId) (x : CV) : Option CV :=
  match ty t with
  | none => none
  | some i =>
    match i.desc, x with
    | .array n _, _ => some (.int .i64 n)
    | .slice _, .slice _ xs _ true => some (.int .i64 xs.length)
    | .slice _, .sref _ b _ _ cap true => if live h b then some (.int .i64 cap) else none
    | _, _ => none

def makeIfaceC (ty : Ty) (t : TypeId) (x : CV) : Option CV :=
  match ty t with
  | some i => match i.desc with
    | .interface _ => none
    | _ => some (.iface t x)
  | none => none

/-- A type's zero value. -/
def zeroV (i : TI) : Option CV :=
  if i.agg then some (.agg i.zero) else
  match i.zero with
  | [z] => some z
  | _ => none

theorem zeroV_ok {i : TI} {zc : CV} {z : Value} (hzv : zeroV i = some zc) (hzc : ofVs z.cells.toList = some i.zero) (hzg : isAggV z = i.agg) : VR φ St w zc z := by
  unfold zeroV at hzv
  have hcs := ofVs_ok (φ := φ) (St := St) (w := w) hzc
  cases z <;> simp only [isAggV] at hzg <;> simp only [← hzg, if_true, Bool.false_eq_true, if_false] at hzv
  case agg cs => simp at hzv; subst hzv; have := VR.agg (φ := φ) (St := St) (w := w) _ _ hcs; simpa [Value.cells] using this
  all_goals
    split at hzv <;> (try (simp at hzv; done))
    rename_i z0 hz0
    simp at hzv; subst hzv
    rw [hz0] at hcs
    simp only [Value.cells] at hcs
    cases hcs with | cons _ _ _ _ h1 _ => exact h1

def typeAssertC (ty : Ty) (x : CV) (asserted : TypeId) (ok : Bool) : Option CV :=
  match ty asserted with
  | none => none
  | some i =>
    match i.desc, x with
    | .interface _, _ => none
    | _, .niliface => if ok then (zeroV i).map fun z => .tuple [z, .bool false] else none
    | _, .iface t v =>
      if t = asserted then some (if ok then .tuple [v, .bool true] else v)
      else if ok then (zeroV i).map fun z => .tuple [z, .bool false] else none
    | _, _ => none

/-- copy -/
def copyC (ty : Ty) (h : Heap) (t : TypeId) (d s : CV) : Option (CV × Heap) :=
  match ty t with
  | none => none
  | some i =>
    match i.desc with
    | .slice e =>
      match ty e with
      | none => none
      | some j =>
        match srcE h j s with
        | none => none
        | some ys =>
          match d with
          | .sref esz b off len _ _ =>
            match h[b]? with
            | some (.cells cs) =>
              let news := (ys.take (min ys.length len)).flatMap CV.flat
              if esz = j.size ∧ off + len * esz ≤ cs.length ∧ news.all CV.one then
                some (.int .i64 (min ys.length len : Nat), h.set b (.cells (splice cs off news)))
              else none
            | _ => none
          | .slice _ [] _ _ => some (.int .i64 0, h)
          | _ => none
    | _ => none

section
variable {ty : Ty} (hty : ty.Ok P) (R : Rel N φ St h w)
include hty
theorem fieldC_ok {t : TypeId} {x c : CV} {f : Nat} (hc : fieldC ty t x f = some c) {v : Value} (hx : VR φ St w x v) : ∃ r, (Instr.field t v f).run P w = .ok r w ∧ VR φ St w c r := by
  unfold fieldC at hc
  split at hc <;> (try (simp at hc; done))
  rename_i i cs hi
  have hu := run_und hty hi w
  split at hc <;> (try (simp at hc; done))
  rename_i fs hd
  rw [hd] at hu
  split at hc <;> (try (simp at hc; done))
  rename_i fld hf
  split at hc <;> (try (simp at hc; done))
  rename_i j hj
  cases hx with | agg _ vs hv =>
  obtain ⟨r, h1, h2⟩ := run_partC hty hj hv hc
  exact ⟨r, by simp [Instr.field, hu, hf, asAgg, h1], h2⟩

theorem indexC_ok {t : TypeId} {x ix c : CV} (hc : indexC ty t x ix = some c) {v vi : Value} (hx : VR φ St w x v) (hi : VR φ St w ix vi) : ∃ r, (Instr.index t v vi).run P w = .ok r w ∧ VR φ St w c r := by
  unfold indexC at hc
  split at hc <;> (try (simp at hc; done))
  rename_i i k n hti
  cases hi
  have hu := run_und hty hti w
  split at hc <;> (try (simp at hc; done))
  · rename_i len e cs hd
    rw [hd] at hu
    split at hc <;> (try (simp at hc; done))
    rename_i j hj
    split at hc <;> (try (simp at hc; done))
    rename_i hn
    cases hx with | agg _ vs hv =>
    obtain ⟨r, h1, h2⟩ := run_partC hty hj hv hc
    exact ⟨r, by simp [Instr.index, asIntOf, hu, hn, run_sizeC hty hj, h1], h2⟩
  · rename_i s hd
    rw [hd] at hu
    split at hc <;> (try (simp at hc; done))
    rename_i hn
    cases hg : s[n.toNat]? with
    | none => simp [hg] at hc
    | some b =>
      simp [hg] at hc; subst hc
      cases hx with | str _ t0 hs =>
      have hb : t0[n.toNat]? = some b := by
        subst hs
        have hlt := (List.getElem?_eq_some_iff.1 hg).1
        have hlt' : n.toNat < t0.size := by rw [Array.length_toList] at hlt; exact hlt
        rw [getElem?_pos t0 n.toNat hlt']
        have := (List.getElem?_eq_some_iff.1 hg).2
        rw [← this]; rfl
      exact ⟨.int .u8 b.toNat, by simp [Instr.index, asIntOf, hu, hn, hb], .int _ _⟩

include R
omit hty in
theorem nilCheckC_ok {x c : CV} (hc : nilCheckC h x = some c) {v : Value} (hx : VR φ St w x v) : c = x ∧ ∀ o : Oper, ∀ ρ : Operand → Value, ∀ y, o.op = .nilCheck y → ρ y = v →
    (execOp ρ o).run P w = .ok (.value v) w := by
  unfold nilCheckC at hc
  split at hc <;> (try (simp at hc; done))
  · split at hc <;> (try (simp at hc; done))
    rename_i hl
    simp at hc; subst hc
    obtain ⟨r, base, size, _, rfl⟩ := alive_ptr R hx hl
    exact ⟨rfl, fun o ρ y ho hy => by simp only [execOp, ho]; rw [hy]; rfl⟩
  · simp at hc; subst hc; cases hx
    exact ⟨rfl, fun o ρ y ho hy => by simp only [execOp, ho]; rw [hy]; rfl⟩
  · simp at hc; subst hc; cases hx
    exact ⟨rfl, fun o ρ y ho hy => by simp only [execOp, ho]; rw [hy]; rfl⟩
  · simp at hc; subst hc; cases hx
    exact ⟨rfl, fun o ρ y ho hy => by simp only [execOp, ho]; rw [hy]; rfl⟩

theorem lenC_ok {t t0 : TypeId} {x c : CV} (hc : lenC ty h t x = some c) {v : Value} (hx : VR φ St w x v) : ∃ r, (Builtin.len_ #[t] t0 #[v]).run P w = .ok r w ∧ VR φ St w c r := by
  unfold lenC at hc
  split at hc <;> (try (simp at hc; done))
  rename_i i hi
  have hu := run_und hty hi w
  split at hc <;> (try (simp at hc; done))
  · rename_i s hd; rw [hd] at hu; simp at hc; subst hc
    cases hx with | str _ t1 hs =>
    refine ⟨.int .i64 s.length, ?_, .int _ _⟩
    have : t1.size = s.length := by rw [← hs]; exact (Array.length_toList (xs := t1.data)).symm
    simp [Builtin.len_, hu, goInt, this]
  · rename_i n e hd; rw [hd] at hu; simp at hc; subst hc
    exact ⟨.int .i64 n, by simp [Builtin.len_, hu, goInt], .int _ _⟩
  · rename_i e esz xs tok full hd; rw [hd] at hu; simp at hc; subst hc
    cases hx with | slice _ _ _ _ a cap vs hat hvs hsz hcap hfull htok =>
    exact ⟨.int .i64 xs.length, by simp [Builtin.len_, hu, goInt], .int _ _⟩
  · rename_i hd; rw [hd] at hu
    split at hc <;> (try (simp at hc; done))
    rename_i hl
    simp at hc; subst hc
    obtain ⟨r, base, size, rcap, _, rfl, _⟩ := alive_sref R hx hl
    exact ⟨_, by simp only [Builtin.len_, List.getElem?_toArray, List.getElem?_cons_zero, Sem.run_bind, hu, Result.andThen_ok]; rfl, .int _ _⟩
  · rename_i hd; rw [hd] at hu; simp at hc; subst hc; cases hx
    exact ⟨.int .i64 0, by simp [Builtin.len_, hu, goInt], .int _ _⟩
  · rename_i b hd; rw [hd] at hu
    split at hc <;> (try (simp at hc; done))
    rename_i es hb
    simp at hc; subst hc
    obtain ⟨r, hφ, rfl⟩ := alive_map R hx (by simp [live, hb])
    obtain ⟨_, o, O, ho, hw, hr⟩ := R.obj b r hφ
    rw [hb] at ho; simp at ho; subst ho
    cases hr with | map _ entries clock hk hv =>
    refine ⟨.int .i64 es.length, ?_, .int _ _⟩
    have := hk.length
    simp at this
    simp [Builtin.len_, hu, goInt, getObj, Sem.run, hw, this]
  · rename_i a hd; rw [hd] at hu
    split at hc <;> (try (simp at hc; done))
    rename_i j hj
    have hu2 := run_und hty hj w
    split at hc <;> (try (simp at hc; done))
    rename_i n e hd2
    rw [hd2] at hu2
    simp at hc; subst hc
    exact ⟨.int .i64 n, by simp [Builtin.len_, hu, hu2, goInt], .int _ _⟩

theorem capC_ok {t t0 : TypeId} {x c : CV} (hc : capC ty h t x = some c) {v : Value} (hx : VR φ St w x v) : ∃ r, (Builtin.cap_ #[t] t0 #[v]).run P w = .ok r w ∧ VR φ St w c r := by
  unfold capC at hc
  split at hc <;> (try (simp at hc; done))
  rename_i i hi
  have hu := run_und hty hi w
  split at hc <;> (try (simp at hc; done))
  · rename_i n e hd; rw [hd] at hu; simp at hc; subst hc
    exact ⟨.int .i64 n, by simp [Builtin.cap_, hu, goInt], .int _ _⟩
  · rename_i e esz xs tok hd; rw [hd] at hu; simp at hc; subst hc
    cases hx with | slice _ _ _ _ a cap vs hat hvs hsz hcap hfull htok =>
    exact ⟨.int .i64 xs.length, by simp [Builtin.cap_, hu, goInt, hfull rfl], .int _ _⟩
  · rename_i hd; rw [hd] at hu
    split at hc <;> (try (simp at hc; done))
    rename_i hl
    simp at hc; subst hc
    obtain ⟨r, base, size, rcap, _, rfl, _, _, h3, _⟩ := alive_sref R hx hl
    exact ⟨.int .i64 _, by simp [Builtin.cap_, hu, goInt]; rfl, by rw [h3 rfl]; exact .int _ _⟩

omit R in
theorem makeIfaceC_ok {t : TypeId} {x c : CV} (hc : makeIfaceC ty t x = some c) {v : Value} (hx : VR φ St w x v) : ∃ r, (Instr.makeInterface t v).run P w = .ok r w ∧ VR φ St w c r := by
  unfold makeIfaceC at hc
  split at hc <;> (try (simp at hc; done))
  rename_i i hi
  have hu := run_und hty hi w
  split at hc <;> (try (simp at hc; done))
  rename_i hd
  simp at hc; subst hc
  refine ⟨.iface t v, ?_, .iface _ _ _ hx⟩
  simp only [Instr.makeInterface, Sem.run_bind, hu, Result.andThen_ok]
  rfl

theorem copyC_ok {t u t0 : TypeId} {d s c : CV} {h' : Heap} (hc : copyC ty h t d s = some (c, h')) {vd vs : Value} (hd : VR φ St w d vd) (hs : VR φ St w s vs) :
    OpOk P N φ St h w (Builtin.copy_ #[t, u] t0 #[vd, vs]) c h' := by
  unfold copyC at hc
  split at hc <;> (try (simp at hc; done))
  rename_i i hi
  have hu := run_und hty hi w
  split at hc <;> (try (simp at hc; done))
  rename_i e hd1
  rw [hd1] at hu
  split at hc <;> (try (simp at hc; done))
  rename_i j hj
  split at hc <;> (try (simp at hc; done))
  rename_i ys hys
  obtain ⟨nvs, hnv, hns, hnsz⟩ := srcE_ok hty R hj hys hs
  split at hc <;> (try (simp at hc; done))
  · rename_i esz b off len cap ex
    split at hc <;> (try (simp at hc; done))
    rename_i cs hb
    dsimp only at hc
    split at hc <;> (try (simp at hc; done))
    rename_i hcond
    obtain ⟨rfl, hle, hone⟩ := hcond
    simp only [Option.some.injEq, Prod.mk.injEq] at hc; obtain ⟨rfl, rfl⟩ := hc
    obtain ⟨r, base, size, rcap, hφ, rfl, k1, k2, k3, k4⟩ := alive_sref R hd (by simp [live, hb])
    have hfl : (ys.take (min ys.length len)).flatMap CV.flat = (ys.flatMap CV.flat).take (min ys.length len * j.size) := flat_take _ _ hnsz
    have hlen : ((ys.take (min ys.length len)).flatMap CV.flat).length = min ys.length len * j.size := by
      rw [flat_length _ (fun y hy => hnsz y (List.mem_of_mem_take hy))]; simp
    have hmle : min ys.length len * j.size ≤ len * j.size := Nat.mul_le_mul_right _ (by omega)
    obtain ⟨w', hst, R', F⟩ := R.store P hφ hb off ((ys.take (min ys.length len)).flatMap CV.flat) (nvs.take (min ys.length len * j.size)) (by rw [hfl]; exact hnv.take _) (by rw [List.all_eq_true] at hone; exact hone) (by omega)
    refine ⟨.int .i64 (min ys.length len : Nat), w', φ, St, ?_, R', .int _ _, F⟩
    have hl := hns.len w
    have hcells := hns.cells w (min ys.length len) (fun _ => rfl) (by omega)
    simp [Builtin.copy_, hu, hl, run_sizeC hty hj, show Nat.min ys.length len = min ys.length len from rfl, hcells, hst, goInt]
  · simp at hc; obtain ⟨rfl, rfl⟩ := hc
    cases hd with | slice _ xs _ _ a cap vs0 hat hvs hsz hcap hfull htok =>
    refine OpOk.pure R (v := .int .i64 0) ?_ (.int _ _)
    have hl := hns.len w
    have hcells := hns.cells w 0 (fun _ => rfl) (by omega)
    cases a <;> simp [Builtin.copy_, hu, hl, run_sizeC hty hj, hcells, goInt, storeCells]

omit hty in
/-- Cells of a new block that nobody writes. -/
theorem new_lit {w' : World} {n : Nat} (hs : w'.heap.size = w.heap.size + 1) (hold : ∀ r, r < w.heap.size → w'.heap[r]? = w.heap[r]?) (ho1 : w'.os = w.os) (ho2 : w'.output = w.output) (ho3 : w'.tape = w.tape) :
    Rel N φ (fun r j => St r j ∨ (r = w.heap.size ∧ j < n)) h w' ∧ Frm h.length φ St w φ (fun r j => St r j ∨ (r = w.heap.size ∧ j < n)) w' := by
  have m : Mono φ St w φ (fun r j => St r j ∨ (r = w.heap.size ∧ j < n)) w' :=
    ⟨fun _ => .refl _, fun _ _ hs => .inl hs, fun r j hs => World.cell?_of_block (w := w) (a := ⟨r, j, none⟩) (hold r (R.stLt r j hs))⟩
  have hlt : ∀ b e r, φ b = some e → e.blk = some r → r < w.heap.size := fun b e r hb he => (R.lt hb he).2
  refine ⟨⟨R.dom, R.dead, ?_, ?_, ?_, R.inj, ?_, ?_, ?_, by have := R.start; omega, R.void⟩, { toMono := m, size := by omega, stNew := ?_, blkNew := fun b e r hb he => .inl ⟨b, e, hb, he⟩, keepBlk := fun r hr _ => hold r hr, idNew := fun _ _ hn => hn, os := ho1, output := ho2, tape := ho3 }⟩
  · intro b r base size hb
    obtain ⟨h1, cs, a, e, h2, h3, h4, h5, h6⟩ := R.own b r base size hb
    exact ⟨h1, cs, a, e, h2, by rw [hold r (hlt b _ r hb rfl)]; exact h3, h4, h5, fun j c hc => let ⟨v, a, b⟩ := h6 j c hc; ⟨v, a, b.mono m⟩⟩
  · intro k r used u size hb
    obtain ⟨h1, h2, h3, a, e, h4, h5⟩ := R.tail k r used u size hb
    exact ⟨h1, h2, h3, a, e, by rw [hold r (hlt k _ r hb rfl)]; exact h4, h5⟩
  · intro b r hb
    obtain ⟨h1, o, O, h2, h3, h4⟩ := R.obj b r hb
    exact ⟨h1, o, O, h2, by rw [hold r (hlt b _ r hb rfl)]; exact h3, h4.mono m⟩
  · intro r j hs'
    rcases hs' with hs' | ⟨rfl, _⟩
    · have := R.stLt r j hs'; omega
    · omega
  · intro b r base size j hb hs'
    rcases hs' with hs' | ⟨rfl, _⟩
    · exact R.stOwn b r base size j hb hs'
    · have := hlt b _ _ hb rfl; omega
  · intro k r used u size j hb hs'
    rcases hs' with hs' | ⟨rfl, _⟩
    · exact R.stTail k r used u size j hb hs'
    · have := hlt k _ _ hb rfl; omega
  · intro r j hs'
    rcases hs' with hs' | ⟨rfl, _⟩
    · exact .inl hs'
    · exact .inr (.inl (Nat.le_refl _))

omit hty R in
theorem bytesOf_ok {P : Program} : ∀ {cs : List CV} {bs : List UInt8} {vs : List Value}, bytesOf cs = some bs → VRL φ St w cs vs → ∀ (acc : ByteArray),
    ∃ t : ByteArray, (forIn vs acc fun c (r : ByteArray) => (match c with
      | .int .u8 n => pure (ForInStep.yield (r.push (UInt8.ofNat n.toNat)))
      | _ => do let _ ← (stuck "bytesToString: byte expected" : Sem PUnit); pure (ForInStep.yield r) : Sem (ForInStep ByteArray))).run P w = .ok t w ∧ t.data.toList = acc.data.toList ++ bs
  | [], bs, vs, h, hv, acc => by cases hv; simp [bytesOf] at h; subst h; exact ⟨acc, by simp, by simp⟩
  | c :: cs, bs, vs, h, hv, acc => by
    cases hv with | cons _ v _ vs h1 h2 =>
    unfold bytesOf at h
    split at h <;> (try (simp at h; done))
    · rename_i heq; simp at heq
    · rename_i n cs' heq
      simp at heq
      obtain ⟨rfl, rfl⟩ := heq
      split at h <;> (try (simp at h; done))
      rename_i bs' hb
      simp at h; subst h
      cases h1
      obtain ⟨t, g1, g2⟩ := bytesOf_ok hb h2 (acc.push (UInt8.ofNat n.toNat))
      refine ⟨t, by simpa using g1, ?_⟩
      rw [g2]
      simp [ByteArray.data_push]

omit hty R in
theorem freeze_facts (W : World) (a : Addr) (n : Nat) : (W.freeze a n).heap.size = W.heap.size ∧ (∀ r, r ≠ a.block → (W.freeze a n).heap[r]? = W.heap[r]?) ∧ (∀ r j, (W.freeze a n).cell? ⟨r, j, none⟩ = W.cell? ⟨r, j, none⟩) ∧
    (W.freeze a n).os = W.os ∧ (W.freeze a n).output = W.output ∧ (W.freeze a n).tape = W.tape := by
  unfold World.freeze
  split
  · exact ⟨rfl, fun _ _ => rfl, fun _ _ => rfl, rfl, rfl, rfl⟩
  · refine ⟨by simp, fun r hr => by simp [Array.getElem?_modify, Ne.symm hr], fun r j => ?_, rfl, rfl, rfl⟩
    simp only [World.cell?, Array.getElem?_modify]
    by_cases hr : a.block = r
    · subst hr
      cases hx : W.heap[a.block]? with
      | none => simp
      | some o => cases o <;> simp
    · simp [hr]

omit hty in
/-- An own block is marked as a text's. -/
theorem mark_own {b r base size : Nat} (hφ : φ b = some (.own r base size)) (off : Nat) : ∃ w', (markStringish ⟨r, off, none⟩).run P w = .ok () w' ∧ Rel N φ St h w' ∧ Frm h.length φ St w φ St w' := by
  obtain ⟨hN, cs, arr, elem, ho, hw, ⟨h1, hz⟩, h2, h3⟩ := R.own b r base size hφ
  obtain ⟨f1, f2, f3, f4, f5, f6⟩ := freeze_facts w ⟨r, arr.size, none⟩ 1
  refine ⟨w.freeze ⟨r, arr.size, none⟩ 1, by simp [markStringish, World.shape?, hw], ?_⟩
  have hput : φ.put b (.own r base size) = φ := by
    funext b'; by_cases hb : b' = b
    · subst hb; rw [put_same, hφ]
    · rw [put_other _ _ _ _ hb]
  have m : Mono φ St w φ St (w.freeze ⟨r, arr.size, none⟩ 1) := ⟨fun _ => .refl _, fun _ _ h => h, fun r' j _ => f3 r' j⟩
  have hwr : (w.freeze ⟨r, arr.size, none⟩ 1).heap[r]? = some (.cells arr elem.1 (if elem.2.1 == elem.2.2 then (arr.size, arr.size + 1) else (min elem.2.1 arr.size, max elem.2.2 (arr.size + 1)))) := by
    simp [World.freeze, Array.getElem?_modify, hw]
  have hlt := (R.lt hφ rfl).2
  refine ⟨?_, Frm.quiet m (by omega) (fun k hk hn => f2 k fun e => hn b _ hφ (by rw [e]; rfl)) f4 f5 f6⟩
  have := R.change b (.own r base size) (.cells cs) St h (w.freeze ⟨r, arr.size, none⟩ 1) (hput.symm ▸ m) (by omega) ho (Nat.le_refl _) (fun _ _ _ _ => rfl)
    (fun b' e r' hne hb' he => f2 r' (fun e' => hne (R.inj b' b e _ r' hb' hφ he (by rw [show r' = r from e']; rfl)))) (fun r' j hs => by have := R.stLt r' j hs; omega) (fun _ _ hs => .inl hs)
    (fun r' he b' e hne hb' he' => by simp [Ent.blk] at he; subst he; exact hne (R.inj b' b e _ r hb' hφ he' rfl))
    (by
      rw [hput]
      refine ⟨hN, cs, arr, (elem.1, if elem.2.1 == elem.2.2 then (arr.size, arr.size + 1) else (min elem.2.1 arr.size, max elem.2.2 (arr.size + 1))), rfl, hwr, ⟨h1, ?_⟩, h2, fun j c hc => let ⟨v, a, b⟩ := h3 j c hc; ⟨v, a, b.mono m⟩, fun j => R.stOwn b r base size j hφ⟩
      split
      · exact .inr (by simp; omega)
      · rename_i hne
        rcases hz with hz | hz
        · simp [hz] at hne
        · exact .inr (by simp only; omega))
  rwa [hput] at this

theorem convQ_ok {s t : TypeId} {x c : CV} {n : Nat} {o : Option HObj} (hc : convQ ty h n s t x = some (c, o)) (hnew : ∀ b, o = some b → φ n = none ∧ h[n]? = some b) {v : Value} (hx : VR φ St w x v) : OpOkN P N φ St h w n (convert s t v) c := by
  unfold convQ at hc
  split at hc <;> (try (simp at hc; done))
  rename_i i i' hi hi'
  have hu := run_und hty hi w
  have hu' := run_und hty hi' w
  split at hc
  · rename_i hd; rw [hd] at hu'; simp at hc; obtain ⟨rfl, rfl⟩ := hc; cases hx
    refine OpOkN.of_pure R ?_ (.int _ _)
    simp [convert, hu, hu', Conv.intToInt]
  · rename_i hd; rw [hd] at hu'; simp at hc; obtain ⟨rfl, rfl⟩ := hc
    have hx' := hx
    cases hx with | str _ t0 hs =>
    refine OpOkN.of_pure R (v := .string t0) ?_ hx'
    simp only [convert, Sem.run_bind, hu, hu', Result.andThen_ok]
    rfl
  · rename_i e b hd; rw [hd] at hu'
    split at hc <;> (try (simp at hc; done))
    rename_i j hj
    have hue := run_und hty hj w
    split at hc <;> (try (simp at hc; done))
    rename_i hd2; rw [hd2] at hue
    simp at hc; obtain ⟨rfl, rfl⟩ := hc
    cases hx with | str _ t0 hs =>
    have hts : t0.size = b.length := by rw [← hs]; exact (Array.length_toList (xs := t0.data)).symm
    let cap := (Question.appendCap t0.size 0 e).cut (w.tape w.drawn (.appendCap t0.size 0 e))
    let arr : Array Value := t0.data.map (fun b => .int .u8 b.toNat) ++ Array.replicate (cap - t0.size) (.int .u8 0)
    have hcap : t0.size ≤ cap := by simp [cap, Question.cut]
    have hasz : arr.size = cap := by
      have : t0.data.size = t0.size := rfl
      simp [arr, this]; omega
    have hvr : VRL φ St w (b.map fun c => CV.int .u8 c.toNat) (b.map fun c => Value.int .u8 c.toNat) := by
      refine VRL.of_get (by simp) ?_
      intro i c v hc hv
      simp only [List.getElem?_map] at hc hv
      cases hsi : b[i]? with
      | none => simp [hsi] at hc
      | some x => simp [hsi] at hc hv; subst hc; subst hv; exact .int _ _
    have htake : arr.toList.take (b.map fun c => CV.int .u8 c.toNat).length = b.map fun c => Value.int .u8 c.toNat := by
      have : t0.data.toList.map (fun c => Value.int .u8 c.toNat) = b.map fun c => Value.int .u8 c.toNat := by rw [hs]
      simp only [arr, Array.toList_append, Array.toList_map, this, List.length_map]
      rw [List.take_append_of_le_length (by simp)]
      exact List.take_of_length_le (by simp)
    obtain ⟨Rd, md⟩ := R.drew
    obtain ⟨hn, hh⟩ := hnew _ rfl
    have hnl : n ≤ h.length := Nat.le_of_lt (List.getElem?_eq_some_iff.1 hh).1
    obtain ⟨R1, F1⟩ := alloc_at (elem := e) Rd hn hh (arr := arr) (by rw [htake]; exact hvr.mono md) (by simp; omega)
    obtain ⟨w', hm, R2, F2⟩ := mark_own (P := P) R1 (put_same _ _ _) 0
    have Ft := ((Frm.drew n φ St w).trans F1 (Nat.le_refl _)).trans (F2.le hnl) (Nat.le_refl _)
    refine ⟨.slice (some ⟨w.heap.size, 0, none⟩) b.length cap, w', _, ?_, R2, ?_, Ft, fun b hb => put_other _ _ _ _ hb⟩
    · rw [← hts]
      simp only [convert, Sem.run_bind, hu, hu', Result.andThen_ok, hue, Conv.stringToBytes, run_choose, Question.forced, Bool.false_eq_true, if_false, newRow, run_newObj, Sem.run_pure]
      have hm' := hm
      simp only [cap, arr, World.alloc, World.drew] at hm' ⊢
      simp only [hm', Result.andThen_ok]
    · exact .sref _ _ 0 _ _ false w.heap.size 0 arr.size cap (put_same _ _ _) (by omega) (Nat.le_refl _) (by simp) (by omega)
  · rename_i e esz b off len cap ex hd; rw [hd] at hu'
    split at hc <;> (try (simp at hc; done))
    rename_i hcond
    obtain ⟨rfl, hl⟩ := hcond
    split at hc <;> (try (simp at hc; done))
    rename_i j hj
    have hue := run_und hty hj w
    split at hc <;> (try (simp at hc; done))
    rename_i hd2; rw [hd2] at hue
    simp at hc; obtain ⟨rfl, rfl⟩ := hc
    have hx' := hx
    obtain ⟨r, base, size, rcap, hφ, rfl, _⟩ := alive_sref R hx hl
    have hnl : n ≤ h.length ∨ h.length ≤ n := Nat.le_total _ _
    obtain ⟨w', hm, R2, F2⟩ := mark_own (P := P) R hφ (base + off)
    refine ⟨.slice (some ⟨r, base + off, none⟩) len rcap, w', φ, ?_, R2, hx'.mono F2.toMono, { F2 with idNew := fun b _ hb => hb }, fun _ _ => rfl⟩
    have hii : i = i' := by rw [hi] at hi'; exact Option.some.inj hi'
    subst hii
    simp only [convert, Sem.run_bind, hu', Result.andThen_ok, hue, beq_self_eq_true]
    simp [hm]
  · rename_i hd hns; rw [hd] at hu'
    split at hc <;> (try (simp at hc; done))
    rename_i e hd1; rw [hd1] at hu
    split at hc <;> (try (simp at hc; done))
    rename_i j hj
    have hue := run_und hty hj w
    have f := hty e j hj
    split at hc <;> (try (simp at hc; done))
    rename_i hd2; rw [hd2] at hue
    have h1 : j.size = 1 := f.one (by rw [f.agg, hd2]; rfl)
    split at hc <;> (try (simp at hc; done))
    rename_i xs hxs
    cases hb : bytesOf xs with
    | none => simp [hb] at hc
    | some bs =>
      simp [hb] at hc; obtain ⟨rfl, rfl⟩ := hc
      obtain ⟨vs, hv, hso, hsz⟩ := srcE_ok hty R hj hxs hx
      have hfl : ∀ {ys : List CV} {bs : List UInt8}, bytesOf ys = some bs → ys.flatMap CV.flat = ys := by
        intro ys
        induction ys with
        | nil => intro _ _; rfl
        | cons y ys ih =>
          intro bs h
          unfold bytesOf at h
          split at h <;> (try (simp at h; done))
          · rename_i heq; simp at heq
          · rename_i n cs' heq
            simp at heq
            obtain ⟨rfl, rfl⟩ := heq
            split at h <;> (try (simp at h; done))
            rename_i bs' hb
            simp [CV.flat, ih hb]
      rw [hfl hb] at hv
      obtain ⟨t, g1, g2⟩ := bytesOf_ok (P := P) hb hv ByteArray.empty
      refine OpOkN.of_pure R (v := .string t) ?_ (.str _ _ (by simpa using g2))
      have hx2 : (∃ a len cap, v = .slice a len cap) := by
        unfold srcE at hxs
        split at hxs <;> (try (simp at hxs; done))
        · cases hx; exact ⟨_, _, _, rfl⟩
        · split at hxs <;> (try (simp at hxs; done))
          rename_i hb'
          obtain ⟨_, _, _, _, _, rfl, _⟩ := alive_sref R hx (by simp [live, hb'])
          exact ⟨_, _, _, rfl⟩
        · exact absurd rfl (hns _)
      obtain ⟨a, len, cap, rfl⟩ := hx2
      have hl := hso.len w
      have hcells := hso.cells w xs.length (fun _ => rfl) (Nat.le_refl _)
      rw [← hso.total, List.take_length, h1] at hcells
      have hlen : len = xs.length := by simpa [Builtin.lenOf] using hl
      subst hlen
      simp only [convert, Sem.run_bind, hu, hu', Result.andThen_ok, hue]
      cases a with
      | none =>
        simp [Builtin.firstCells] at hcells
        subst hcells
        cases hv
        simp [bytesOf] at hb; subst hb
        have : t = ByteArray.empty := by
          obtain ⟨⟨l⟩⟩ := t; simp at g2; subst g2; rfl
        subst this
        rfl
      | some a =>
        simp only [Builtin.firstCells, Nat.mul_one] at hcells
        simp only [Conv.bytesToString, Sem.run_bind, hcells, Result.andThen_ok]
        rw [← Array.forIn_toList]
        refine Eq.trans (congrArg (fun r => Result.andThen r _) (show _ = _ from g1)) ?_
        rfl
  · simp at hc

omit R in
theorem typeAssertC_ok {x c : CV} {t u : TypeId} {ok : Bool} (hc : typeAssertC ty x u ok = some c) {v : Value} (hx : VR φ St w x v) : ∃ r, (Instr.typeAssert v t u ok).run P w = .ok r w ∧ VR φ St w c r := by
  unfold typeAssertC at hc
  split at hc <;> (try (simp at hc; done))
  rename_i i hi
  have hu := run_und hty hi w
  obtain ⟨z, hz, hzc, hzl, hzg⟩ := run_zeroC hty hi w
  have hzr : ∀ zc, zeroV i = some zc → VR φ St w zc z := fun zc hzv => zeroV_ok hzv hzc hzg
  split at hc <;> (try (simp at hc; done))
  · rename_i hd
    split at hc <;> (try (simp at hc; done))
    rename_i hok
    cases hx
    cases hzv : zeroV i with
    | none => simp [hzv] at hc
    | some zc =>
      simp [hzv] at hc; subst hc
      refine ⟨.tuple #[z, .bool false], ?_, .tuple _ [z, .bool false] (.cons _ _ _ _ (hzr zc hzv) (.cons _ _ _ _ (.bool _) .nil))⟩
      simp only [Instr.typeAssert, Sem.run_bind, hu, Result.andThen_ok]
      cases hdd : i.desc <;> first | exact absurd hdd (hd _) | (simp [hok, hz])
  · rename_i t' v' hd
    cases hx with | iface _ _ v1 h1 =>
    split at hc
    · rename_i heq
      subst heq
      simp at hc; subst hc
      refine ⟨if ok then .tuple #[v1, .bool true] else v1, ?_, ?_⟩
      · simp only [Instr.typeAssert, Sem.run_bind, hu, Result.andThen_ok]
        cases hdd : i.desc <;> first | exact absurd hdd (hd _) | (simp; done) | (cases ok <;> simp)
      · cases ok
        · exact h1
        · exact .tuple _ [v1, .bool true] (.cons _ _ _ _ h1 (.cons _ _ _ _ (.bool _) .nil))
    · rename_i hne
      split at hc <;> (try (simp at hc; done))
      rename_i hok
      cases hzv : zeroV i with
      | none => simp [hzv] at hc
      | some zc =>
        simp [hzv] at hc; subst hc
        refine ⟨.tuple #[z, .bool false], ?_, .tuple _ [z, .bool false] (.cons _ _ _ _ (hzr zc hzv) (.cons _ _ _ _ (.bool _) .nil))⟩
        simp only [Instr.typeAssert, Sem.run_bind, hu, Result.andThen_ok]
        cases hdd : i.desc <;> first | exact absurd hdd (hd _) | (simp [hok, hz, hne])
end
end
end Go.Eng
