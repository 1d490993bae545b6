/- The trees are the functions'. -/
import Derived.Test.YtecgohommehdpaaWyd
set_option linter.unusedVariables false
set_option maxRecDepth 100000
namespace Go.Q
open Go.V
theorem is18 : fnS TP (shOf FN) 40 F18.ps 18 = some F18 := by kernel_rfl
theorem is66 : fnS TP (shOf FN) 40 F66.ps 66 = some F66 := by kernel_rfl
theorem is67 : fnS TP (shOf FN) 40 F67.ps 67 = some F67 := by kernel_rfl
theorem is69 : fnS TP (shOf FN) 40 F69.ps 69 = some F69 := by kernel_rfl
theorem is70 : fnS TP (shOf FN) 40 F70.ps 70 = some F70 := by kernel_rfl
theorem is73 : fnS TP (shOf FN) 40 F73.ps 73 = some F73 := by kernel_rfl
theorem is74 : fnS TP (shOf FN) 40 F74.ps 74 = some F74 := by kernel_rfl
theorem is75 : fnS TP (shOf FN) 40 F75.ps 75 = some F75 := by kernel_rfl
theorem is78 : fnS TP (shOf FN) 40 F78.ps 78 = some F78 := by kernel_rfl
theorem is88 : fnS TP (shOf FN) 40 F88.ps 88 = some F88 := by kernel_rfl
theorem is98 : fnS TP (shOf FN) 40 F98.ps 98 = some F98 := by kernel_rfl
theorem is115 : fnS TP (shOf FN) 40 F115.ps 115 = some F115 := by kernel_rfl
theorem is116 : fnS TP (shOf FN) 40 F116.ps 116 = some F116 := by kernel_rfl
theorem is117 : fnS TP (shOf FN) 40 F117.ps 117 = some F117 := by kernel_rfl
theorem is119 : fnS TP (shOf FN) 40 F119.ps 119 = some F119 := by kernel_rfl
theorem is130 : fnS TP (shOf FN) 40 F130.ps 130 = some F130 := by kernel_rfl
end Go.Q
