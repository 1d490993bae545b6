/- The trees are the functions'. -/
import Derived.Test.YtimbhebamjnfmaaTqd
set_option linter.unusedVariables false
set_option maxRecDepth 100000
namespace Go.Q
open Go.V
theorem is7 : fnS TP (shOf FN) 40 F7.ps 7 = some F7 := by kernel_rfl
end Go.Q
