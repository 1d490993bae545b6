/- The trees are the functions'. -/
import Derived.Test.YtecgohommehdpaaWrd
set_option linter.unusedVariables false
set_option maxRecDepth 100000
namespace Go.Q
open Go.V
theorem is15 : fnS TP (shOf FN) 40 F15.ps 15 = some F15 := by kernel_rfl
theorem is21 : fnS TP (shOf FN) 40 F21.ps 21 = some F21 := by kernel_rfl
theorem is28 : fnS TP (shOf FN) 40 F28.ps 28 = some F28 := by kernel_rfl
theorem is40 : fnS TP (shOf FN) 40 F40.ps 40 = some F40 := by kernel_rfl
theorem is65 : fnS TP (shOf FN) 40 F65.ps 65 = some F65 := by kernel_rfl
theorem is67 : fnS TP (shOf FN) 40 F67.ps 67 = some F67 := by kernel_rfl
theorem is68 : fnS TP (shOf FN) 40 F68.ps 68 = some F68 := by kernel_rfl
theorem is73 : fnS TP (shOf FN) 40 F73.ps 73 = some F73 := by kernel_rfl
theorem is91 : fnS TP (shOf FN) 40 F91.ps 91 = some F91 := by kernel_rfl
theorem is98 : fnS TP (shOf FN) 40 F98.ps 98 = some F98 := by kernel_rfl
theorem is103 : fnS TP (shOf FN) 40 F103.ps 103 = some F103 := by kernel_rfl
theorem is106 : fnS TP (shOf FN) 40 F106.ps 106 = some F106 := by kernel_rfl
theorem is111 : fnS TP (shOf FN) 40 F111.ps 111 = some F111 := by kernel_rfl
theorem is112 : fnS TP (shOf FN) 40 F112.ps 112 = some F112 := by kernel_rfl
theorem is118 : fnS TP (shOf FN) 40 F118.ps 118 = some F118 := by kernel_rfl
theorem is124 : fnS TP (shOf FN) 40 F124.ps 124 = some F124 := by kernel_rfl
theorem is125 : fnS TP (shOf FN) 40 F125.ps 125 = some F125 := by kernel_rfl
theorem is147 : fnS TP (shOf FN) 40 F147.ps 147 = some F147 := by kernel_rfl
end Go.Q
