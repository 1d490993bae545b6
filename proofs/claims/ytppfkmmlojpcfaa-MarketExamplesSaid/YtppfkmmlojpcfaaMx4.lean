/- Calls, evaluated. -/
import Derived.Test.YtppfkmmlojpcfaaMx0
import Derived.Test.YtppfkmmlojpcfaaMx1
set_option linter.unusedVariables false
set_option maxRecDepth 100000
namespace Go.V
open Go.Proofs.Try (prog)
theorem ok8 : PuOK prog k8.f k8.args k8.t := known (L := [k0]) (memos_cons ok0 memos_nil) (by kernel_rfl)
theorem ok9 : PuOK prog k9.f k9.args k9.t := known (L := [k0]) (memos_cons ok0 memos_nil) (by kernel_rfl)
theorem ok10 : PuOK prog k10.f k10.args k10.t := known (L := []) memos_nil (by kernel_rfl)
end Go.V
