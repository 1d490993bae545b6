/- The trees are the functions'. -/
import Derived.Test.YtpammdlgoeoeaaaGad
set_option linter.unusedVariables false
set_option maxRecDepth 100000
namespace Go.Q
open Go.V
theorem is8 : fnS TP (shOf FN) 40 F8.ps 8 = some F8 := by kernel_rfl
theorem is14 : fnS TP (shOf FN) 40 F14.ps 14 = some F14 := by kernel_rfl
theorem is19 : fnS TP (shOf FN) 40 F19.ps 19 = some F19 := by kernel_rfl
theorem is20 : fnS TP (shOf FN) 40 F20.ps 20 = some F20 := by kernel_rfl
theorem is22 : fnS TP (shOf FN) 40 F22.ps 22 = some F22 := by kernel_rfl
theorem is24 : fnS TP (shOf FN) 40 F24.ps 24 = some F24 := by kernel_rfl
theorem is27 : fnS TP (shOf FN) 40 F27.ps 27 = some F27 := by kernel_rfl
theorem is42 : fnS TP (shOf FN) 40 F42.ps 42 = some F42 := by kernel_rfl
theorem is58 : fnS TP (shOf FN) 40 F58.ps 58 = some F58 := by kernel_rfl
theorem is61 : fnS TP (shOf FN) 40 F61.ps 61 = some F61 := by kernel_rfl
theorem is78 : fnS TP (shOf FN) 40 F78.ps 78 = some F78 := by kernel_rfl
theorem is79 : fnS TP (shOf FN) 40 F79.ps 79 = some F79 := by kernel_rfl
theorem is86 : fnS TP (shOf FN) 40 F86.ps 86 = some F86 := by kernel_rfl
theorem is96 : fnS TP (shOf FN) 40 F96.ps 96 = some F96 := by kernel_rfl
theorem is102 : fnS TP (shOf FN) 40 F102.ps 102 = some F102 := by kernel_rfl
end Go.Q
