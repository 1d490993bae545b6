/- The trees are the functions'. -/
import Derived.Test.YtpammdlgoeoeaaaGad
set_option linter.unusedVariables false
set_option maxRecDepth 100000
namespace Go.Q
open Go.V
theorem is6 : fnS TP (shOf FN) 40 F6.ps 6 = some F6 := by kernel_rfl
theorem is8 : fnS TP (shOf FN) 40 F8.ps 8 = some F8 := by kernel_rfl
theorem is9 : fnS TP (shOf FN) 40 F9.ps 9 = some F9 := by kernel_rfl
theorem is11 : fnS TP (shOf FN) 40 F11.ps 11 = some F11 := by kernel_rfl
theorem is17 : fnS TP (shOf FN) 40 F17.ps 17 = some F17 := by kernel_rfl
theorem is18 : fnS TP (shOf FN) 40 F18.ps 18 = some F18 := by kernel_rfl
theorem is21 : fnS TP (shOf FN) 40 F21.ps 21 = some F21 := by kernel_rfl
theorem is24 : fnS TP (shOf FN) 40 F24.ps 24 = some F24 := by kernel_rfl
theorem is38 : fnS TP (shOf FN) 40 F38.ps 38 = some F38 := by kernel_rfl
theorem is43 : fnS TP (shOf FN) 40 F43.ps 43 = some F43 := by kernel_rfl
theorem is44 : fnS TP (shOf FN) 40 F44.ps 44 = some F44 := by kernel_rfl
theorem is72 : fnS TP (shOf FN) 40 F72.ps 72 = some F72 := by kernel_rfl
theorem is73 : fnS TP (shOf FN) 40 F73.ps 73 = some F73 := by kernel_rfl
theorem is87 : fnS TP (shOf FN) 40 F87.ps 87 = some F87 := by kernel_rfl
theorem is94 : fnS TP (shOf FN) 40 F94.ps 94 = some F94 := by kernel_rfl
end Go.Q
