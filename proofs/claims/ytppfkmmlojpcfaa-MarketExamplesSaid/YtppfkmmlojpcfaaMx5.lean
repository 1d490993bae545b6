/- Calls, evaluated. -/
import Derived.Test.YtppfkmmlojpcfaaMx0
import Derived.Test.YtppfkmmlojpcfaaMx1
import Derived.Test.YtppfkmmlojpcfaaMx2
import Derived.Test.YtppfkmmlojpcfaaMx3
import Derived.Test.YtppfkmmlojpcfaaMx4
set_option linter.unusedVariables false
set_option maxRecDepth 100000
namespace Go.V
open Go.Proofs.Try (prog)
theorem ok11 : PuOK prog k11.f k11.args k11.t := known (L := [k0, k1, k2, k3, k4, k5, k6, k7, k8, k9, k10]) (memos_cons ok0 (memos_cons ok1 (memos_cons ok2 (memos_cons ok3 (memos_cons ok4 (memos_cons ok5 (memos_cons ok6 (memos_cons ok7 (memos_cons ok8 (memos_cons ok9 (memos_cons ok10 memos_nil))))))))))) (by kernel_rfl)
end Go.V
