/- The trees are the functions'. -/
import Derived.Test.YtiailejekbnkgaaGreatLzd
set_option linter.unusedVariables false
set_option maxRecDepth 100000
namespace Go.Q
open Go.V
theorem is3 : fnS TP (shOf FN) 40 F3.ps 3 = some F3 := by kernel_rfl
theorem is12 : fnS TP (shOf FN) 40 F12.ps 12 = some F12 := by kernel_rfl
theorem is13 : fnS TP (shOf FN) 40 F13.ps 13 = some F13 := by kernel_rfl
theorem is39 : fnS TP (shOf FN) 40 F39.ps 39 = some F39 := by kernel_rfl
theorem is40 : fnS TP (shOf FN) 40 F40.ps 40 = some F40 := by kernel_rfl
theorem is141 : fnS TP (shOf FN) 40 F141.ps 141 = some F141 := by kernel_rfl
theorem is142 : fnS TP (shOf FN) 40 F142.ps 142 = some F142 := by kernel_rfl
theorem is145 : fnS TP (shOf FN) 40 F145.ps 145 = some F145 := by kernel_rfl
theorem is146 : fnS TP (shOf FN) 40 F146.ps 146 = some F146 := by kernel_rfl
end Go.Q
