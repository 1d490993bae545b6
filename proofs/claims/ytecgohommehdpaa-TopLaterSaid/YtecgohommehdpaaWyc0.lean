/- The trees are the functions'. -/
import Derived.Test.YtecgohommehdpaaWyd
set_option linter.unusedVariables false
set_option maxRecDepth 100000
namespace Go.Q
open Go.V
theorem is21 : fnS TP (shOf FN) 40 F21.ps 21 = some F21 := by kernel_rfl
theorem is67 : fnS TP (shOf FN) 40 F67.ps 67 = some F67 := by kernel_rfl
theorem is69 : fnS TP (shOf FN) 40 F69.ps 69 = some F69 := by kernel_rfl
theorem is78 : fnS TP (shOf FN) 40 F78.ps 78 = some F78 := by kernel_rfl
theorem is93 : fnS TP (shOf FN) 40 F93.ps 93 = some F93 := by kernel_rfl
theorem is98 : fnS TP (shOf FN) 40 F98.ps 98 = some F98 := by kernel_rfl
theorem is112 : fnS TP (shOf FN) 40 F112.ps 112 = some F112 := by kernel_rfl
theorem is117 : fnS TP (shOf FN) 40 F117.ps 117 = some F117 := by kernel_rfl
theorem is118 : fnS TP (shOf FN) 40 F118.ps 118 = some F118 := by kernel_rfl
theorem is123 : fnS TP (shOf FN) 40 F123.ps 123 = some F123 := by kernel_rfl
end Go.Q
