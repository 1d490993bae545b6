/- The trees are the functions'. -/
import Derived.Test.YtpammdlgoeoeaaaGad
set_option linter.unusedVariables false
set_option maxRecDepth 100000
namespace Go.Q
open Go.V
theorem is5 : fnS TP (shOf FN) 40 F5.ps 5 = some F5 := by kernel_rfl
theorem is18 : fnS TP (shOf FN) 40 F18.ps 18 = some F18 := by kernel_rfl
theorem is23 : fnS TP (shOf FN) 40 F23.ps 23 = some F23 := by kernel_rfl
theorem is32 : fnS TP (shOf FN) 40 F32.ps 32 = some F32 := by kernel_rfl
theorem is35 : fnS TP (shOf FN) 40 F35.ps 35 = some F35 := by kernel_rfl
theorem is36 : fnS TP (shOf FN) 40 F36.ps 36 = some F36 := by kernel_rfl
theorem is44 : fnS TP (shOf FN) 40 F44.ps 44 = some F44 := by kernel_rfl
theorem is46 : fnS TP (shOf FN) 40 F46.ps 46 = some F46 := by kernel_rfl
theorem is50 : fnS TP (shOf FN) 40 F50.ps 50 = some F50 := by kernel_rfl
theorem is53 : fnS TP (shOf FN) 40 F53.ps 53 = some F53 := by kernel_rfl
theorem is60 : fnS TP (shOf FN) 40 F60.ps 60 = some F60 := by kernel_rfl
theorem is64 : fnS TP (shOf FN) 40 F64.ps 64 = some F64 := by kernel_rfl
theorem is65 : fnS TP (shOf FN) 40 F65.ps 65 = some F65 := by kernel_rfl
theorem is85 : fnS TP (shOf FN) 40 F85.ps 85 = some F85 := by kernel_rfl
theorem is94 : fnS TP (shOf FN) 40 F94.ps 94 = some F94 := by kernel_rfl
end Go.Q
