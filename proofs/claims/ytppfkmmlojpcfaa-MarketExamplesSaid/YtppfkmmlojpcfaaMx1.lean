/- Calls, evaluated. -/
import Derived.Test.YtppfkmmlojpcfaaMx0
set_option linter.unusedVariables false
set_option maxRecDepth 100000
namespace Go.V
open Go.Proofs.Try (prog)
theorem ok0 : PuOK prog k0.f k0.args k0.t := known (L := []) memos_nil (by kernel_rfl)
theorem ok1 : PuOK prog k1.f k1.args k1.t := known (L := [k0]) (memos_cons ok0 memos_nil) (by kernel_rfl)
theorem ok2 : PuOK prog k2.f k2.args k2.t := known (L := [k0]) (memos_cons ok0 memos_nil) (by kernel_rfl)
end Go.V
