/- The trees are the functions'. -/
import Derived.Test.YtpammdlgoeoeaaaGad
set_option linter.unusedVariables false
set_option maxRecDepth 100000
namespace Go.Q
open Go.V
theorem is25 : fnS TP (shOf FN) 40 F25.ps 25 = some F25 := by kernel_rfl
theorem is29 : fnS TP (shOf FN) 40 F29.ps 29 = some F29 := by kernel_rfl
theorem is37 : fnS TP (shOf FN) 40 F37.ps 37 = some F37 := by kernel_rfl
theorem is42 : fnS TP (shOf FN) 40 F42.ps 42 = some F42 := by kernel_rfl
theorem is46 : fnS TP (shOf FN) 40 F46.ps 46 = some F46 := by kernel_rfl
theorem is47 : fnS TP (shOf FN) 40 F47.ps 47 = some F47 := by kernel_rfl
theorem is50 : fnS TP (shOf FN) 40 F50.ps 50 = some F50 := by kernel_rfl
theorem is52 : fnS TP (shOf FN) 40 F52.ps 52 = some F52 := by kernel_rfl
theorem is56 : fnS TP (shOf FN) 40 F56.ps 56 = some F56 := by kernel_rfl
theorem is60 : fnS TP (shOf FN) 40 F60.ps 60 = some F60 := by kernel_rfl
theorem is71 : fnS TP (shOf FN) 40 F71.ps 71 = some F71 := by kernel_rfl
theorem is85 : fnS TP (shOf FN) 40 F85.ps 85 = some F85 := by kernel_rfl
theorem is89 : fnS TP (shOf FN) 40 F89.ps 89 = some F89 := by kernel_rfl
end Go.Q
