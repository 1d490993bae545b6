/- The trees are the functions'. -/
import Derived.Test.YtecgohommehdpaaGreatWzd
set_option linter.unusedVariables false
set_option maxRecDepth 100000
namespace Go.Q
open Go.V
theorem is5 : fnS TP (shOf FN) 40 F5.ps 5 = some F5 := by kernel_rfl
theorem is15 : fnS TP (shOf FN) 40 F15.ps 15 = some F15 := by kernel_rfl
theorem is19 : fnS TP (shOf FN) 40 F19.ps 19 = some F19 := by kernel_rfl
theorem is57 : fnS TP (shOf FN) 40 F57.ps 57 = some F57 := by kernel_rfl
theorem is58 : fnS TP (shOf FN) 40 F58.ps 58 = some F58 := by kernel_rfl
theorem is59 : fnS TP (shOf FN) 40 F59.ps 59 = some F59 := by kernel_rfl
theorem is64 : fnS TP (shOf FN) 40 F64.ps 64 = some F64 := by kernel_rfl
theorem is65 : fnS TP (shOf FN) 40 F65.ps 65 = some F65 := by kernel_rfl
theorem is67 : fnS TP (shOf FN) 40 F67.ps 67 = some F67 := by kernel_rfl
theorem is68 : fnS TP (shOf FN) 40 F68.ps 68 = some F68 := by kernel_rfl
theorem is90 : fnS TP (shOf FN) 40 F90.ps 90 = some F90 := by kernel_rfl
theorem is96 : fnS TP (shOf FN) 40 F96.ps 96 = some F96 := by kernel_rfl
theorem is135 : fnS TP (shOf FN) 40 F135.ps 135 = some F135 := by kernel_rfl
end Go.Q
