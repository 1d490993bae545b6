/- Calls, evaluated. -/
import Derived.Test.YtppfkmmlojpcfaaMx0
set_option linter.unusedVariables false
set_option maxRecDepth 100000
namespace Go.V
open Go.Proofs.Try (prog)
theorem ok3 : PuOK prog k3.f k3.args k3.t := known (L := []) memos_nil (by kernel_rfl)
theorem ok4 : PuOK prog k4.f k4.args k4.t := known (L := []) memos_nil (by kernel_rfl)
end Go.V
