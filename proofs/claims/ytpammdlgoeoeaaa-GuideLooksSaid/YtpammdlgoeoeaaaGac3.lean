/- The trees are the functions'. -/
import Derived.Test.YtpammdlgoeoeaaaGad
set_option linter.unusedVariables false
set_option maxRecDepth 100000
namespace Go.Q
open Go.V
theorem is15 : fnS TP (shOf FN) 40 F15.ps 15 = some F15 := by kernel_rfl
theorem is17 : fnS TP (shOf FN) 40 F17.ps 17 = some F17 := by kernel_rfl
theorem is21 : fnS TP (shOf FN) 40 F21.ps 21 = some F21 := by kernel_rfl
theorem is25 : fnS TP (shOf FN) 40 F25.ps 25 = some F25 := by kernel_rfl
theorem is30 : fnS TP (shOf FN) 40 F30.ps 30 = some F30 := by kernel_rfl
theorem is39 : fnS TP (shOf FN) 40 F39.ps 39 = some F39 := by kernel_rfl
theorem is49 : fnS TP (shOf FN) 40 F49.ps 49 = some F49 := by kernel_rfl
theorem is51 : fnS TP (shOf FN) 40 F51.ps 51 = some F51 := by kernel_rfl
theorem is57 : fnS TP (shOf FN) 40 F57.ps 57 = some F57 := by kernel_rfl
theorem is69 : fnS TP (shOf FN) 40 F69.ps 69 = some F69 := by kernel_rfl
theorem is70 : fnS TP (shOf FN) 40 F70.ps 70 = some F70 := by kernel_rfl
theorem is80 : fnS TP (shOf FN) 40 F80.ps 80 = some F80 := by kernel_rfl
theorem is84 : fnS TP (shOf FN) 40 F84.ps 84 = some F84 := by kernel_rfl
theorem is89 : fnS TP (shOf FN) 40 F89.ps 89 = some F89 := by kernel_rfl
theorem is103 : fnS TP (shOf FN) 40 F103.ps 103 = some F103 := by kernel_rfl
end Go.Q
