/- The trees are the functions'. -/
import Derived.Test.YtimbhebamjnfmaaMqd
set_option linter.unusedVariables false
set_option maxRecDepth 100000
namespace Go.Q
open Go.V
theorem is4 : fnS TP (shOf FN) 40 F4.ps 4 = some F4 := by kernel_rfl
end Go.Q
