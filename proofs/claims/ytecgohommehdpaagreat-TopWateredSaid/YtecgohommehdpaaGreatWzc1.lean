/- The trees are the functions'. -/
import Derived.Test.YtecgohommehdpaaGreatWzd
set_option linter.unusedVariables false
set_option maxRecDepth 100000
namespace Go.Q
open Go.V
theorem is16 : fnS TP (shOf FN) 40 F16.ps 16 = some F16 := by kernel_rfl
theorem is17 : fnS TP (shOf FN) 40 F17.ps 17 = some F17 := by kernel_rfl
theorem is22 : fnS TP (shOf FN) 40 F22.ps 22 = some F22 := by kernel_rfl
theorem is23 : fnS TP (shOf FN) 40 F23.ps 23 = some F23 := by kernel_rfl
theorem is55 : fnS TP (shOf FN) 40 F55.ps 55 = some F55 := by kernel_rfl
theorem is56 : fnS TP (shOf FN) 40 F56.ps 56 = some F56 := by kernel_rfl
theorem is63 : fnS TP (shOf FN) 40 F63.ps 63 = some F63 := by kernel_rfl
theorem is89 : fnS TP (shOf FN) 40 F89.ps 89 = some F89 := by kernel_rfl
theorem is91 : fnS TP (shOf FN) 40 F91.ps 91 = some F91 := by kernel_rfl
theorem is92 : fnS TP (shOf FN) 40 F92.ps 92 = some F92 := by kernel_rfl
theorem is93 : fnS TP (shOf FN) 40 F93.ps 93 = some F93 := by kernel_rfl
theorem is94 : fnS TP (shOf FN) 40 F94.ps 94 = some F94 := by kernel_rfl
theorem is120 : fnS TP (shOf FN) 40 F120.ps 120 = some F120 := by kernel_rfl
end Go.Q
