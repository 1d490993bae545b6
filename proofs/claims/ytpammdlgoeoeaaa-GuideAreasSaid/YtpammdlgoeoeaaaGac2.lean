/- The trees are the functions'. -/
import Derived.Test.YtpammdlgoeoeaaaGad
set_option linter.unusedVariables false
set_option maxRecDepth 100000
namespace Go.Q
open Go.V
theorem is6 : fnS TP (shOf FN) 40 F6.ps 6 = some F6 := by kernel_rfl
theorem is18 : fnS TP (shOf FN) 40 F18.ps 18 = some F18 := by kernel_rfl
theorem is24 : fnS TP (shOf FN) 40 F24.ps 24 = some F24 := by kernel_rfl
theorem is28 : fnS TP (shOf FN) 40 F28.ps 28 = some F28 := by kernel_rfl
theorem is38 : fnS TP (shOf FN) 40 F38.ps 38 = some F38 := by kernel_rfl
theorem is39 : fnS TP (shOf FN) 40 F39.ps 39 = some F39 := by kernel_rfl
theorem is51 : fnS TP (shOf FN) 40 F51.ps 51 = some F51 := by kernel_rfl
theorem is52 : fnS TP (shOf FN) 40 F52.ps 52 = some F52 := by kernel_rfl
theorem is54 : fnS TP (shOf FN) 40 F54.ps 54 = some F54 := by kernel_rfl
theorem is56 : fnS TP (shOf FN) 40 F56.ps 56 = some F56 := by kernel_rfl
theorem is64 : fnS TP (shOf FN) 40 F64.ps 64 = some F64 := by kernel_rfl
theorem is67 : fnS TP (shOf FN) 40 F67.ps 67 = some F67 := by kernel_rfl
theorem is72 : fnS TP (shOf FN) 40 F72.ps 72 = some F72 := by kernel_rfl
theorem is73 : fnS TP (shOf FN) 40 F73.ps 73 = some F73 := by kernel_rfl
theorem is76 : fnS TP (shOf FN) 40 F76.ps 76 = some F76 := by kernel_rfl
theorem is77 : fnS TP (shOf FN) 40 F77.ps 77 = some F77 := by kernel_rfl
theorem is85 : fnS TP (shOf FN) 40 F85.ps 85 = some F85 := by kernel_rfl
theorem is94 : fnS TP (shOf FN) 40 F94.ps 94 = some F94 := by kernel_rfl
theorem is96 : fnS TP (shOf FN) 40 F96.ps 96 = some F96 := by kernel_rfl
end Go.Q
