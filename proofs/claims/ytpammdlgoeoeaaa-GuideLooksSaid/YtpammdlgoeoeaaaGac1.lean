/- The trees are the functions'. -/
import Derived.Test.YtpammdlgoeoeaaaGad
set_option linter.unusedVariables false
set_option maxRecDepth 100000
namespace Go.Q
open Go.V
theorem is4 : fnS TP (shOf FN) 40 F4.ps 4 = some F4 := by kernel_rfl
theorem is9 : fnS TP (shOf FN) 40 F9.ps 9 = some F9 := by kernel_rfl
theorem is11 : fnS TP (shOf FN) 40 F11.ps 11 = some F11 := by kernel_rfl
theorem is16 : fnS TP (shOf FN) 40 F16.ps 16 = some F16 := by kernel_rfl
theorem is26 : fnS TP (shOf FN) 40 F26.ps 26 = some F26 := by kernel_rfl
theorem is29 : fnS TP (shOf FN) 40 F29.ps 29 = some F29 := by kernel_rfl
theorem is31 : fnS TP (shOf FN) 40 F31.ps 31 = some F31 := by kernel_rfl
theorem is56 : fnS TP (shOf FN) 40 F56.ps 56 = some F56 := by kernel_rfl
theorem is59 : fnS TP (shOf FN) 40 F59.ps 59 = some F59 := by kernel_rfl
theorem is73 : fnS TP (shOf FN) 40 F73.ps 73 = some F73 := by kernel_rfl
theorem is81 : fnS TP (shOf FN) 40 F81.ps 81 = some F81 := by kernel_rfl
theorem is87 : fnS TP (shOf FN) 40 F87.ps 87 = some F87 := by kernel_rfl
theorem is91 : fnS TP (shOf FN) 40 F91.ps 91 = some F91 := by kernel_rfl
theorem is93 : fnS TP (shOf FN) 40 F93.ps 93 = some F93 := by kernel_rfl
end Go.Q
