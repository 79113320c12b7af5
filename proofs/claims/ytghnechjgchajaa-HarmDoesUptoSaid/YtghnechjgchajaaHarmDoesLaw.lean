/- 'HarmDoes' answers true, for every input of bulk at most 1048576; each argument reads afterwards as it read before. -/
import Derived.Test.YtghnechjgchajaaRows
import Derived.JoinedCond
import Derived.Test.YtghnechjgchajaaHarmDoes
namespace Go.Proofs.Ytghnechjgchajaa.harmDoes
open Go.ChangeShapes Go.WideShapes Go.ChangeAt Go.RowKit
set_option linter.unusedVariables false

theorem own:ownKnob Try.prog.godebug=none:=by kernel_rfl

mutual
theorem wQ9{H:Type}:∀d:DataW H,Rows.uptoBulk d=Eng.zY7 d
  | .lit l=>by cases l<;>rfl
  | .nil=>rfl
  | .ptr d=>by simp only[Rows.uptoBulk,Eng.zY7,wQ9 d]
  | .slice l r=>by simp only[Rows.uptoBulk,Eng.zY7,yJ0 l,yJ0 r]
  | .agg l=>by simp only[Rows.uptoBulk,Eng.zY7,yJ0 l]
  | .iface _ d=>by simp only[Rows.uptoBulk,Eng.zY7,wQ9 d]
  | .map l=>by simp only[Rows.uptoBulk,Eng.zY7,wZa l]
  | .held _=>rfl
theorem yJ0{H:Type}:∀l:List (DataW H),Rows.uptoBulkAll l=Eng.zKu l
  |[]=>rfl
  |d::l=>by simp only[Rows.uptoBulkAll,Eng.zKu,wQ9 d,yJ0 l]
theorem wZa{H:Type}:∀l:List (Lit×DataW H),Rows.uptoBulkEntries l=Eng.yWn l
  |[]=>rfl
  |d::l=>by simp only[Rows.uptoBulkEntries,Eng.yWn,uWt d,wZa l]
theorem uWt{H:Type}:∀x:Lit×DataW H,Rows.uptoBulkEntry x=Eng.xZw x
  |(l,d)=>by cases l<;>simp only[Rows.uptoBulkEntry,Eng.xZw,wQ9 d]
end

set_option maxRecDepth 100000 in
theorem lifted(os:Os)(started:os.Started)(H:Type)(enc:TypeId×Value→H)(F:Stop.Interp):
    ReturnsInHanded {} Try.checked os 4 .any ((Rows.OpenSpec.upto Rows.harmDoesSpec).pre6 enc Try.prog Try.f4 Rows.harmDoesUptoRow.domain false) (((Rows.OpenSpec.upto Rows.harmDoesSpec).at F).post enc Try.prog Try.f4 false true false false):=by
  refine returnsInHanded_of_cond (C:=Try.checked) (s:=Rows.OpenSpec.upto Rows.harmDoesSpec) (k:=Rows.uptoSmall) rfl own started (by kernel_rfl) Try.func4
    (OpenSpec.witness (enc:=enc) (C:=Try.checked) (s:=Rows.OpenSpec.upto Rows.harmDoesSpec) (k:=Rows.uptoSmall) rfl false ⟨#[], #[.agg #[.int .i64 0, .int .i64 0, .int .i64 0, .int .i64 0, .int .i64 0, .int .i64 0, .int .i64 0, .int .i64 0, .int .i64 0], .agg #[.slice none 0 0], .slice none 0 0, .agg #[.int .u8 0, .int .i64 0, .int .i64 0, .int .i64 0, .int .i64 0, .int .u8 0]],[]⟩ 12 (by kernel_rfl) (by kernel_rfl) (by kernel_rfl)
      (x:=([.agg [.lit (.int .i64 0), .lit (.int .i64 0), .lit (.int .i64 0), .lit (.int .i64 0), .lit (.int .i64 0), .lit (.int .i64 0), .lit (.int .i64 0), .lit (.int .i64 0), .lit (.int .i64 0)], .agg [.nil], .nil, .agg [.lit (.int .u8 0), .lit (.int .i64 0), .lit (.int .i64 0), .lit (.int .i64 0), .lit (.int .i64 0), .lit (.int .u8 0)]],[],[])) (by kernel_rfl) rfl (by kernel_rfl)) ?_
  intro W base args ds gs before hval0 hW _ hk _;have hk2:Eng.zKu (ds++gs)≤1048576:=by
    rw[←yJ0];exact of_decide_eq_true hk
  refine Eng.wQf (P:=Try.prog) (c:=cfg) (fn:=Try.f4) (s:=Rows.harmDoesSpec) (p:=zXi) (top:=1048576) zWq.ty (by kernel_rfl) rfl Try.underlying4 rfl ?_ (by kernel_rfl) (by kernel_rfl) (by kernel_rfl) yYd rfl ?_ W (fun i v hi=>by cases hi) base args ds gs before hval0 hW hk2
  · intro ds hd
    match ds,hd with
    |[d1,d2,d3,d4],_=>rfl
  · intro d hf hz
    exact⟨true,yKh d hf hz,rfl⟩

theorem said:Rows.HarmDoesUptoSaid:=
  OpenClaim.holds_of_cond 4 Try.f4 rfl rfl rfl rfl rfl rfl rfl ⟨rfl,rfl,rfl,rfl,rfl⟩ rfl rfl rfl rfl rfl (by kernel_rfl) Try.func4 (by kernel_rfl)
    (of_decide_eq_true (by kernel_rfl)) (by unfold Func.isWrapper;first|(rw[if_pos (by decide+kernel)];kernel_rfl)|(rw[if_neg (by decide+kernel)];exact⟨rfl,rfl⟩))
    (fun os started H enc _ F=>lifted os started H enc F)
end Go.Proofs.Ytghnechjgchajaa.harmDoes
