/- A config's bounds, by way of data that isn't known. -/
import Derived.Test.YtghnechjgchajaaCfg
import Derived.Test.YtghnechjgchajaaM6
import Derived.ProofKit
namespace Go.Proofs.Ytghnechjgchajaa
open Go.Eng
set_option linter.unusedVariables false
set_option maxRecDepth 100000
abbrev CfgT:=Int×(Int×(Int×(Int×(Int×(Int×(Int×(Int×(Int×Unit))))))))
noncomputable def bndS(d:CfgT):List (Int×(Int×(Int×Unit))):=
 [(d.1,1,64,()),(d.2.1,1,32,()),(d.2.2.1,2,8,()),(d.2.2.2.1,1,4,()),(d.2.2.2.2.1,1,64,()),(d.2.2.2.2.2.1,1,8,()),(d.2.2.2.2.2.2.1,1,4,()),(d.2.2.2.2.2.2.2.1,1,16,()),(d.2.2.2.2.2.2.2.2.1,1,16,())]
noncomputable def yKl(d:CfgT):Option (List (Int×(Int×(Int×Unit)))):=some (bndS d)
noncomputable def yJe:PFn:={args:=[(.pair (.int .i64) (.pair (.int .i64) (.pair (.int .i64) (.pair (.int .i64) (.pair (.int .i64) (.pair (.int .i64) (.pair (.int .i64) (.pair (.int .i64) (.pair (.int .i64) .unit)))))))))],res:=[(.arr 9 (.pair (.int .i64) (.pair (.int .i64) (.pair (.int .i64) .unit))))],fn:=yKl}
theorem xKm:zWi Try.prog cfg 77 yJe:=symD (l:=[]) (n:=400) (ts:=[126]) (g:=bndS) zWq .nil rfl (fun d=>rfl) (fun d=>by kernel_rfl)
end Go.Proofs.Ytghnechjgchajaa
