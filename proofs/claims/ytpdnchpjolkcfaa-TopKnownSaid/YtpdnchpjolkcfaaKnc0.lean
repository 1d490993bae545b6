/- The trees are the functions'. -/
import Derived.Test.YtpdnchpjolkcfaaKnd
set_option linter.unusedVariables false
set_option maxRecDepth 100000
namespace Go.Q
open Go.V
theorem is57 : fnS TP (shOf FN) 40 F57.ps 57 = some F57 := by kernel_rfl
end Go.Q
