/- The trees are the functions'. -/
import Derived.Test.YtpammdlgoeoeaaaGad
set_option linter.unusedVariables false
set_option maxRecDepth 100000
namespace Go.Q
open Go.V
theorem is19 : fnS TP (shOf FN) 40 F19.ps 19 = some F19 := by kernel_rfl
theorem is20 : fnS TP (shOf FN) 40 F20.ps 20 = some F20 := by kernel_rfl
theorem is25 : fnS TP (shOf FN) 40 F25.ps 25 = some F25 := by kernel_rfl
theorem is29 : fnS TP (shOf FN) 40 F29.ps 29 = some F29 := by kernel_rfl
theorem is31 : fnS TP (shOf FN) 40 F31.ps 31 = some F31 := by kernel_rfl
theorem is32 : fnS TP (shOf FN) 40 F32.ps 32 = some F32 := by kernel_rfl
theorem is33 : fnS TP (shOf FN) 40 F33.ps 33 = some F33 := by kernel_rfl
theorem is34 : fnS TP (shOf FN) 40 F34.ps 34 = some F34 := by kernel_rfl
theorem is59 : fnS TP (shOf FN) 40 F59.ps 59 = some F59 := by kernel_rfl
theorem is63 : fnS TP (shOf FN) 40 F63.ps 63 = some F63 := by kernel_rfl
theorem is65 : fnS TP (shOf FN) 40 F65.ps 65 = some F65 := by kernel_rfl
theorem is66 : fnS TP (shOf FN) 40 F66.ps 66 = some F66 := by kernel_rfl
theorem is78 : fnS TP (shOf FN) 40 F78.ps 78 = some F78 := by kernel_rfl
theorem is82 : fnS TP (shOf FN) 40 F82.ps 82 = some F82 := by kernel_rfl
theorem is86 : fnS TP (shOf FN) 40 F86.ps 86 = some F86 := by kernel_rfl
theorem is90 : fnS TP (shOf FN) 40 F90.ps 90 = some F90 := by kernel_rfl
theorem is91 : fnS TP (shOf FN) 40 F91.ps 91 = some F91 := by kernel_rfl
theorem is95 : fnS TP (shOf FN) 40 F95.ps 95 = some F95 := by kernel_rfl
theorem is97 : fnS TP (shOf FN) 40 F97.ps 97 = some F97 := by kernel_rfl
end Go.Q
