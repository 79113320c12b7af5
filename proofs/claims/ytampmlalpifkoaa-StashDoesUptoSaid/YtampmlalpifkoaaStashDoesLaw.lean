/- 'StashDoes' answers true, for every input of bulk at most 1048576; each argument reads afterwards as it read before. -/
import Derived.Test.YtampmlalpifkoaaRows
import Derived.JoinedCond
import Derived.Test.YtampmlalpifkoaaStashDoes
namespace Go.Proofs.Ytampmlalpifkoaa.stashDoes
open Go.ChangeShapes Go.WideShapes Go.ChangeAt Go.RowKit
set_option linter.unusedVariables false

theorem own:ownKnob Try.prog.godebug=none:=by kernel_rfl

mutual
theorem xYb{H:Type}:∀d:DataW H,Rows.uptoBulk d=Eng.zY3 d
  | .lit l=>by cases l<;>rfl
  | .nil=>rfl
  | .ptr d=>by simp only[Rows.uptoBulk,Eng.zY3,xYb d]
  | .slice l r=>by simp only[Rows.uptoBulk,Eng.zY3,yK5 l,yK5 r]
  | .agg l=>by simp only[Rows.uptoBulk,Eng.zY3,yK5 l]
  | .iface _ d=>by simp only[Rows.uptoBulk,Eng.zY3,xYb d]
  | .map l=>by simp only[Rows.uptoBulk,Eng.zY3,wWg l]
  | .held _=>rfl
theorem yK5{H:Type}:∀l:List (DataW H),Rows.uptoBulkAll l=Eng.zK8 l
  |[]=>rfl
  |d::l=>by simp only[Rows.uptoBulkAll,Eng.zK8,xYb d,yK5 l]
theorem wWg{H:Type}:∀l:List (Lit×DataW H),Rows.uptoBulkEntries l=Eng.yWb l
  |[]=>rfl
  |d::l=>by simp only[Rows.uptoBulkEntries,Eng.yWb,vYb d,wWg l]
theorem vYb{H:Type}:∀x:Lit×DataW H,Rows.uptoBulkEntry x=Eng.xXb x
  |(l,d)=>by cases l<;>simp only[Rows.uptoBulkEntry,Eng.xXb,xYb d]
end

set_option maxRecDepth 100000 in
theorem lifted(os:Os)(started:os.Started)(H:Type)(enc:TypeId×Value→H)(F:Stop.Interp):
    ReturnsInHanded {} Try.checked os 4 .any ((Rows.OpenSpec.upto Rows.stashDoesSpec).pre6 enc Try.prog Try.f4 Rows.stashDoesUptoRow.domain false) (((Rows.OpenSpec.upto Rows.stashDoesSpec).at F).post enc Try.prog Try.f4 false true false false):=by
  refine returnsInHanded_of_cond (C:=Try.checked) (s:=Rows.OpenSpec.upto Rows.stashDoesSpec) (k:=Rows.uptoSmall) rfl own started (by kernel_rfl) Try.func4
    (OpenSpec.witness (enc:=enc) (C:=Try.checked) (s:=Rows.OpenSpec.upto Rows.stashDoesSpec) (k:=Rows.uptoSmall) rfl false ⟨#[], #[.agg #[.int .i64 0, .int .i64 0, .int .i64 0, .int .i64 0], .slice none 0 0, .agg #[.int .i64 0, .int .i64 0, .slice none 0 0], .int .i64 0, .slice none 0 0],[]⟩ 12 (by kernel_rfl) (by kernel_rfl) (by kernel_rfl)
      (x:=([.agg [.lit (.int .i64 0), .lit (.int .i64 0), .lit (.int .i64 0), .lit (.int .i64 0)], .nil, .agg [.lit (.int .i64 0), .lit (.int .i64 0), .nil], .lit (.int .i64 0), .nil],[],[])) (by kernel_rfl) rfl (by kernel_rfl)) ?_
  intro W base args ds gs before hval0 hW _ hk _;have hk2:Eng.zK8 (ds++gs)≤1048576:=by
    rw[←yK5];exact of_decide_eq_true hk
  refine Eng.xJi (P:=Try.prog) (c:=cfg) (fn:=Try.f4) (s:=Rows.stashDoesSpec) (p:=zW0) (top:=1048576) zXx.ty (by kernel_rfl) rfl Try.underlying4 rfl ?_ (by kernel_rfl) (by kernel_rfl) (by kernel_rfl) yKp rfl ?_ W (fun i v hi=>by cases hi) base args ds gs before hval0 hW hk2
  · intro ds hd
    match ds,hd with
    |[d1,d2,d3,d4,d5],_=>rfl
  · intro d hf hz
    exact⟨true,yZd d hf hz,rfl⟩

theorem said:Rows.StashDoesUptoSaid:=
  OpenClaim.holds_of_cond 4 Try.f4 rfl rfl rfl rfl rfl rfl rfl ⟨rfl,rfl,rfl,rfl,rfl⟩ rfl rfl rfl rfl rfl (by kernel_rfl) Try.func4 (by kernel_rfl)
    (of_decide_eq_true (by kernel_rfl)) (by unfold Func.isWrapper;first|(rw[if_pos (by decide+kernel)];kernel_rfl)|(rw[if_neg (by decide+kernel)];exact⟨rfl,rfl⟩))
    (fun os started H enc _ F=>lifted os started H enc F)
end Go.Proofs.Ytampmlalpifkoaa.stashDoes
