/- The trees are the functions'. -/
import Derived.Test.YtecgohommehdpaaWyd
set_option linter.unusedVariables false
set_option maxRecDepth 100000
namespace Go.Q
open Go.V
theorem is4 : fnS TP (shOf FN) 40 F4.ps 4 = some F4 := by kernel_rfl
theorem is10 : fnS TP (shOf FN) 40 F10.ps 10 = some F10 := by kernel_rfl
theorem is20 : fnS TP (shOf FN) 40 F20.ps 20 = some F20 := by kernel_rfl
theorem is35 : fnS TP (shOf FN) 40 F35.ps 35 = some F35 := by kernel_rfl
theorem is44 : fnS TP (shOf FN) 40 F44.ps 44 = some F44 := by kernel_rfl
theorem is65 : fnS TP (shOf FN) 40 F65.ps 65 = some F65 := by kernel_rfl
theorem is68 : fnS TP (shOf FN) 40 F68.ps 68 = some F68 := by kernel_rfl
theorem is89 : fnS TP (shOf FN) 40 F89.ps 89 = some F89 := by kernel_rfl
theorem is92 : fnS TP (shOf FN) 40 F92.ps 92 = some F92 := by kernel_rfl
theorem is94 : fnS TP (shOf FN) 40 F94.ps 94 = some F94 := by kernel_rfl
theorem is95 : fnS TP (shOf FN) 40 F95.ps 95 = some F95 := by kernel_rfl
theorem is115 : fnS TP (shOf FN) 40 F115.ps 115 = some F115 := by kernel_rfl
theorem is116 : fnS TP (shOf FN) 40 F116.ps 116 = some F116 := by kernel_rfl
theorem is119 : fnS TP (shOf FN) 40 F119.ps 119 = some F119 := by kernel_rfl
end Go.Q
