/- Calls, evaluated. -/
import Derived.Test.YtppfkmmlojpcfaaMx0
import Derived.Test.YtppfkmmlojpcfaaMx1
set_option linter.unusedVariables false
set_option maxRecDepth 100000
namespace Go.V
open Go.Proofs.Try (prog)
theorem ok5 : PuOK prog k5.f k5.args k5.t := known (L := [k0]) (memos_cons ok0 memos_nil) (by kernel_rfl)
theorem ok6 : PuOK prog k6.f k6.args k6.t := known (L := []) memos_nil (by kernel_rfl)
theorem ok7 : PuOK prog k7.f k7.args k7.t := known (L := [k0]) (memos_cons ok0 memos_nil) (by kernel_rfl)
end Go.V
