/- The trees are the functions'. -/
import Derived.Test.YtpammdlgoeoeaaaGad
set_option linter.unusedVariables false
set_option maxRecDepth 100000
namespace Go.Q
open Go.V
theorem is16 : fnS TP (shOf FN) 40 F16.ps 16 = some F16 := by kernel_rfl
theorem is31 : fnS TP (shOf FN) 40 F31.ps 31 = some F31 := by kernel_rfl
theorem is41 : fnS TP (shOf FN) 40 F41.ps 41 = some F41 := by kernel_rfl
theorem is49 : fnS TP (shOf FN) 40 F49.ps 49 = some F49 := by kernel_rfl
theorem is51 : fnS TP (shOf FN) 40 F51.ps 51 = some F51 := by kernel_rfl
theorem is54 : fnS TP (shOf FN) 40 F54.ps 54 = some F54 := by kernel_rfl
theorem is58 : fnS TP (shOf FN) 40 F58.ps 58 = some F58 := by kernel_rfl
theorem is59 : fnS TP (shOf FN) 40 F59.ps 59 = some F59 := by kernel_rfl
theorem is61 : fnS TP (shOf FN) 40 F61.ps 61 = some F61 := by kernel_rfl
theorem is74 : fnS TP (shOf FN) 40 F74.ps 74 = some F74 := by kernel_rfl
theorem is81 : fnS TP (shOf FN) 40 F81.ps 81 = some F81 := by kernel_rfl
theorem is86 : fnS TP (shOf FN) 40 F86.ps 86 = some F86 := by kernel_rfl
theorem is91 : fnS TP (shOf FN) 40 F91.ps 91 = some F91 := by kernel_rfl
theorem is93 : fnS TP (shOf FN) 40 F93.ps 93 = some F93 := by kernel_rfl
theorem is96 : fnS TP (shOf FN) 40 F96.ps 96 = some F96 := by kernel_rfl
end Go.Q
