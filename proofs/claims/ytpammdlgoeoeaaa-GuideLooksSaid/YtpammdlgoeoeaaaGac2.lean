/- The trees are the functions'. -/
import Derived.Test.YtpammdlgoeoeaaaGad
set_option linter.unusedVariables false
set_option maxRecDepth 100000
namespace Go.Q
open Go.V
theorem is6 : fnS TP (shOf FN) 40 F6.ps 6 = some F6 := by kernel_rfl
theorem is12 : fnS TP (shOf FN) 40 F12.ps 12 = some F12 := by kernel_rfl
theorem is34 : fnS TP (shOf FN) 40 F34.ps 34 = some F34 := by kernel_rfl
theorem is38 : fnS TP (shOf FN) 40 F38.ps 38 = some F38 := by kernel_rfl
theorem is47 : fnS TP (shOf FN) 40 F47.ps 47 = some F47 := by kernel_rfl
theorem is54 : fnS TP (shOf FN) 40 F54.ps 54 = some F54 := by kernel_rfl
theorem is68 : fnS TP (shOf FN) 40 F68.ps 68 = some F68 := by kernel_rfl
theorem is74 : fnS TP (shOf FN) 40 F74.ps 74 = some F74 := by kernel_rfl
theorem is76 : fnS TP (shOf FN) 40 F76.ps 76 = some F76 := by kernel_rfl
theorem is83 : fnS TP (shOf FN) 40 F83.ps 83 = some F83 := by kernel_rfl
theorem is90 : fnS TP (shOf FN) 40 F90.ps 90 = some F90 := by kernel_rfl
theorem is95 : fnS TP (shOf FN) 40 F95.ps 95 = some F95 := by kernel_rfl
theorem is97 : fnS TP (shOf FN) 40 F97.ps 97 = some F97 := by kernel_rfl
end Go.Q
