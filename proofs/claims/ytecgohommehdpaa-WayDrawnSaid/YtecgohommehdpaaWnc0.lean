/- The trees are the functions'. -/
import Derived.Test.YtecgohommehdpaaWnd
set_option linter.unusedVariables false
set_option maxRecDepth 100000
namespace Go.Q
open Go.V
theorem is21 : fnS TP (shOf FN) 40 F21.ps 21 = some F21 := by kernel_rfl
theorem is70 : fnS TP (shOf FN) 40 F70.ps 70 = some F70 := by kernel_rfl
theorem is78 : fnS TP (shOf FN) 40 F78.ps 78 = some F78 := by kernel_rfl
theorem is96 : fnS TP (shOf FN) 40 F96.ps 96 = some F96 := by kernel_rfl
theorem is98 : fnS TP (shOf FN) 40 F98.ps 98 = some F98 := by kernel_rfl
theorem is118 : fnS TP (shOf FN) 40 F118.ps 118 = some F118 := by kernel_rfl
end Go.Q
