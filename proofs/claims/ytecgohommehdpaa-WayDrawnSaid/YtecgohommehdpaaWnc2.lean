/- The trees are the functions'. -/
import Derived.Test.YtecgohommehdpaaWnd
set_option linter.unusedVariables false
set_option maxRecDepth 100000
namespace Go.Q
open Go.V
theorem is8 : fnS TP (shOf FN) 40 F8.ps 8 = some F8 := by kernel_rfl
theorem is15 : fnS TP (shOf FN) 40 F15.ps 15 = some F15 := by kernel_rfl
theorem is31 : fnS TP (shOf FN) 40 F31.ps 31 = some F31 := by kernel_rfl
theorem is32 : fnS TP (shOf FN) 40 F32.ps 32 = some F32 := by kernel_rfl
theorem is34 : fnS TP (shOf FN) 40 F34.ps 34 = some F34 := by kernel_rfl
theorem is35 : fnS TP (shOf FN) 40 F35.ps 35 = some F35 := by kernel_rfl
theorem is36 : fnS TP (shOf FN) 40 F36.ps 36 = some F36 := by kernel_rfl
theorem is37 : fnS TP (shOf FN) 40 F37.ps 37 = some F37 := by kernel_rfl
theorem is77 : fnS TP (shOf FN) 40 F77.ps 77 = some F77 := by kernel_rfl
theorem is94 : fnS TP (shOf FN) 40 F94.ps 94 = some F94 := by kernel_rfl
theorem is115 : fnS TP (shOf FN) 40 F115.ps 115 = some F115 := by kernel_rfl
theorem is117 : fnS TP (shOf FN) 40 F117.ps 117 = some F117 := by kernel_rfl
theorem is119 : fnS TP (shOf FN) 40 F119.ps 119 = some F119 := by kernel_rfl
end Go.Q
