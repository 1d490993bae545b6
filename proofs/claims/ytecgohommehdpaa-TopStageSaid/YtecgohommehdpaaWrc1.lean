/- The trees are the functions'. -/
import Derived.Test.YtecgohommehdpaaWrd
set_option linter.unusedVariables false
set_option maxRecDepth 100000
namespace Go.Q
open Go.V
theorem is39 : fnS TP (shOf FN) 40 F39.ps 39 = some F39 := by kernel_rfl
theorem is41 : fnS TP (shOf FN) 40 F41.ps 41 = some F41 := by kernel_rfl
theorem is42 : fnS TP (shOf FN) 40 F42.ps 42 = some F42 := by kernel_rfl
theorem is43 : fnS TP (shOf FN) 40 F43.ps 43 = some F43 := by kernel_rfl
theorem is66 : fnS TP (shOf FN) 40 F66.ps 66 = some F66 := by kernel_rfl
theorem is77 : fnS TP (shOf FN) 40 F77.ps 77 = some F77 := by kernel_rfl
theorem is92 : fnS TP (shOf FN) 40 F92.ps 92 = some F92 := by kernel_rfl
theorem is93 : fnS TP (shOf FN) 40 F93.ps 93 = some F93 := by kernel_rfl
theorem is101 : fnS TP (shOf FN) 40 F101.ps 101 = some F101 := by kernel_rfl
theorem is104 : fnS TP (shOf FN) 40 F104.ps 104 = some F104 := by kernel_rfl
theorem is105 : fnS TP (shOf FN) 40 F105.ps 105 = some F105 := by kernel_rfl
theorem is110 : fnS TP (shOf FN) 40 F110.ps 110 = some F110 := by kernel_rfl
theorem is115 : fnS TP (shOf FN) 40 F115.ps 115 = some F115 := by kernel_rfl
theorem is116 : fnS TP (shOf FN) 40 F116.ps 116 = some F116 := by kernel_rfl
theorem is117 : fnS TP (shOf FN) 40 F117.ps 117 = some F117 := by kernel_rfl
theorem is123 : fnS TP (shOf FN) 40 F123.ps 123 = some F123 := by kernel_rfl
theorem is129 : fnS TP (shOf FN) 40 F129.ps 129 = some F129 := by kernel_rfl
theorem is130 : fnS TP (shOf FN) 40 F130.ps 130 = some F130 := by kernel_rfl
theorem is141 : fnS TP (shOf FN) 40 F141.ps 141 = some F141 := by kernel_rfl
end Go.Q
