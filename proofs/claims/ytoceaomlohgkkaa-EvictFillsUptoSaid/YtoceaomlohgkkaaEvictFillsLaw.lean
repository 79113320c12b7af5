/- 'EvictFills' answers true, for every input of bulk at most 1048576; each argument reads afterwards as it read before. -/
import Derived.Test.YtoceaomlohgkkaaRows
import Derived.JoinedCond
import Derived.Test.YtoceaomlohgkkaaEvictFills
namespace Go.Proofs.Ytoceaomlohgkkaa.evictFills
open Go.ChangeShapes Go.WideShapes Go.ChangeAt Go.RowKit
set_option linter.unusedVariables false

theorem own:ownKnob Try.prog.godebug=none:=by kernel_rfl

mutual
theorem xKy{H:Type}:∀d:DataW H,Rows.uptoBulk d=Eng.zYc d
  | .lit l=>by cases l<;>rfl
  | .nil=>rfl
  | .ptr d=>by simp only[Rows.uptoBulk,Eng.zYc,xKy d]
  | .slice l r=>by simp only[Rows.uptoBulk,Eng.zYc,yZ2 l,yZ2 r]
  | .agg l=>by simp only[Rows.uptoBulk,Eng.zYc,yZ2 l]
  | .iface _ d=>by simp only[Rows.uptoBulk,Eng.zYc,xKy d]
  | .map l=>by simp only[Rows.uptoBulk,Eng.zYc,xYv l]
  | .held _=>rfl
theorem yZ2{H:Type}:∀l:List (DataW H),Rows.uptoBulkAll l=Eng.zKj l
  |[]=>rfl
  |d::l=>by simp only[Rows.uptoBulkAll,Eng.zKj,xKy d,yZ2 l]
theorem xYv{H:Type}:∀l:List (Lit×DataW H),Rows.uptoBulkEntries l=Eng.yQh l
  |[]=>rfl
  |d::l=>by simp only[Rows.uptoBulkEntries,Eng.yQh,vZ0 d,xYv l]
theorem vZ0{H:Type}:∀x:Lit×DataW H,Rows.uptoBulkEntry x=Eng.xQ8 x
  |(l,d)=>by cases l<;>simp only[Rows.uptoBulkEntry,Eng.xQ8,xKy d]
end

set_option maxRecDepth 100000 in
theorem lifted(os:Os)(started:os.Started)(H:Type)(enc:TypeId×Value→H)(F:Stop.Interp):
    ReturnsInHanded {} Try.checked os 3 .any ((Rows.OpenSpec.upto Rows.evictFillsSpec).pre6 enc Try.prog Try.f3 Rows.evictFillsUptoRow.domain false) (((Rows.OpenSpec.upto Rows.evictFillsSpec).at F).post enc Try.prog Try.f3 false true false false):=by
  refine returnsInHanded_of_cond (C:=Try.checked) (s:=Rows.OpenSpec.upto Rows.evictFillsSpec) (k:=Rows.uptoSmall) rfl own started (by kernel_rfl) Try.func3
    (OpenSpec.witness (enc:=enc) (C:=Try.checked) (s:=Rows.OpenSpec.upto Rows.evictFillsSpec) (k:=Rows.uptoSmall) rfl false ⟨#[], #[.agg #[.int .i64 0, .int .i64 0, .int .i64 0, .int .i64 0], .slice none 0 0, .int .i64 0],[]⟩ 12 (by kernel_rfl) (by kernel_rfl) (by kernel_rfl)
      (x:=([.agg [.lit (.int .i64 0), .lit (.int .i64 0), .lit (.int .i64 0), .lit (.int .i64 0)], .nil, .lit (.int .i64 0)],[],[])) (by kernel_rfl) rfl (by kernel_rfl)) ?_
  intro W base args ds gs before hval0 hW _ hk _;have hk2:Eng.zKj (ds++gs)≤1048576:=by
    rw[←yZ2];exact of_decide_eq_true hk
  refine Eng.xZ5 (P:=Try.prog) (c:=cfg) (fn:=Try.f3) (s:=Rows.evictFillsSpec) (p:=zWy) (top:=1048576) zZb.ty (by kernel_rfl) rfl Try.underlying4 rfl ?_ (by kernel_rfl) (by kernel_rfl) (by kernel_rfl) yXr rfl ?_ W (fun i v hi=>by cases hi) base args ds gs before hval0 hW hk2
  · intro ds hd
    match ds,hd with
    |[d1,d2,d3],_=>rfl
  · intro d hf hz
    exact⟨true,yWa d hf hz,rfl⟩

theorem said:Rows.EvictFillsUptoSaid:=
  OpenClaim.holds_of_cond 3 Try.f3 rfl rfl rfl rfl rfl rfl rfl ⟨rfl,rfl,rfl,rfl,rfl⟩ rfl rfl rfl rfl rfl (by kernel_rfl) Try.func3 (by kernel_rfl)
    (of_decide_eq_true (by kernel_rfl)) (by unfold Func.isWrapper;first|(rw[if_pos (by decide+kernel)];kernel_rfl)|(rw[if_neg (by decide+kernel)];exact⟨rfl,rfl⟩))
    (fun os started H enc _ F=>lifted os started H enc F)
end Go.Proofs.Ytoceaomlohgkkaa.evictFills
