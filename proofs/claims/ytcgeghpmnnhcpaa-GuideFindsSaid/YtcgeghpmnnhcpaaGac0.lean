/- The trees are the functions'. -/
import Derived.Test.YtcgeghpmnnhcpaaGad
set_option linter.unusedVariables false
set_option maxRecDepth 100000
namespace Go.Q
open Go.V
theorem is13 : fnS TP (shOf FN) 40 F13.ps 13 = some F13 := by kernel_rfl
end Go.Q
