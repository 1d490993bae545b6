/- The trees are the functions'. -/
import Derived.Test.YtpammdlgoeoeaaaGad
set_option linter.unusedVariables false
set_option maxRecDepth 100000
namespace Go.Q
open Go.V
theorem is5 : fnS TP (shOf FN) 40 F5.ps 5 = some F5 := by kernel_rfl
theorem is19 : fnS TP (shOf FN) 40 F19.ps 19 = some F19 := by kernel_rfl
theorem is20 : fnS TP (shOf FN) 40 F20.ps 20 = some F20 := by kernel_rfl
theorem is22 : fnS TP (shOf FN) 40 F22.ps 22 = some F22 := by kernel_rfl
theorem is30 : fnS TP (shOf FN) 40 F30.ps 30 = some F30 := by kernel_rfl
theorem is34 : fnS TP (shOf FN) 40 F34.ps 34 = some F34 := by kernel_rfl
theorem is40 : fnS TP (shOf FN) 40 F40.ps 40 = some F40 := by kernel_rfl
theorem is45 : fnS TP (shOf FN) 40 F45.ps 45 = some F45 := by kernel_rfl
theorem is65 : fnS TP (shOf FN) 40 F65.ps 65 = some F65 := by kernel_rfl
theorem is68 : fnS TP (shOf FN) 40 F68.ps 68 = some F68 := by kernel_rfl
theorem is78 : fnS TP (shOf FN) 40 F78.ps 78 = some F78 := by kernel_rfl
theorem is79 : fnS TP (shOf FN) 40 F79.ps 79 = some F79 := by kernel_rfl
theorem is80 : fnS TP (shOf FN) 40 F80.ps 80 = some F80 := by kernel_rfl
theorem is83 : fnS TP (shOf FN) 40 F83.ps 83 = some F83 := by kernel_rfl
theorem is103 : fnS TP (shOf FN) 40 F103.ps 103 = some F103 := by kernel_rfl
end Go.Q
