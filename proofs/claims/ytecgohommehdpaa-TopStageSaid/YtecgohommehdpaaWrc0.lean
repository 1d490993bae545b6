/- The trees are the functions'. -/
import Derived.Test.YtecgohommehdpaaWrd
set_option linter.unusedVariables false
set_option maxRecDepth 100000
namespace Go.Q
open Go.V
theorem is9 : fnS TP (shOf FN) 40 F9.ps 9 = some F9 := by kernel_rfl
theorem is17 : fnS TP (shOf FN) 40 F17.ps 17 = some F17 := by kernel_rfl
theorem is72 : fnS TP (shOf FN) 40 F72.ps 72 = some F72 := by kernel_rfl
theorem is74 : fnS TP (shOf FN) 40 F74.ps 74 = some F74 := by kernel_rfl
theorem is89 : fnS TP (shOf FN) 40 F89.ps 89 = some F89 := by kernel_rfl
theorem is90 : fnS TP (shOf FN) 40 F90.ps 90 = some F90 := by kernel_rfl
theorem is94 : fnS TP (shOf FN) 40 F94.ps 94 = some F94 := by kernel_rfl
theorem is97 : fnS TP (shOf FN) 40 F97.ps 97 = some F97 := by kernel_rfl
theorem is102 : fnS TP (shOf FN) 40 F102.ps 102 = some F102 := by kernel_rfl
theorem is107 : fnS TP (shOf FN) 40 F107.ps 107 = some F107 := by kernel_rfl
theorem is122 : fnS TP (shOf FN) 40 F122.ps 122 = some F122 := by kernel_rfl
theorem is127 : fnS TP (shOf FN) 40 F127.ps 127 = some F127 := by kernel_rfl
theorem is138 : fnS TP (shOf FN) 40 F138.ps 138 = some F138 := by kernel_rfl
theorem is139 : fnS TP (shOf FN) 40 F139.ps 139 = some F139 := by kernel_rfl
theorem is140 : fnS TP (shOf FN) 40 F140.ps 140 = some F140 := by kernel_rfl
theorem is142 : fnS TP (shOf FN) 40 F142.ps 142 = some F142 := by kernel_rfl
end Go.Q
