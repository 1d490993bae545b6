/- The trees are the functions'. -/
import Derived.Test.YtecgohommehdpaaWnd
set_option linter.unusedVariables false
set_option maxRecDepth 100000
namespace Go.Q
open Go.V
theorem is7 : fnS TP (shOf FN) 40 F7.ps 7 = some F7 := by kernel_rfl
theorem is22 : fnS TP (shOf FN) 40 F22.ps 22 = some F22 := by kernel_rfl
theorem is72 : fnS TP (shOf FN) 40 F72.ps 72 = some F72 := by kernel_rfl
theorem is95 : fnS TP (shOf FN) 40 F95.ps 95 = some F95 := by kernel_rfl
theorem is97 : fnS TP (shOf FN) 40 F97.ps 97 = some F97 := by kernel_rfl
theorem is130 : fnS TP (shOf FN) 40 F130.ps 130 = some F130 := by kernel_rfl
end Go.Q
