/- The trees are the functions'. -/
import Derived.Test.YtimbhebamjnfmaaMqd
set_option linter.unusedVariables false
set_option maxRecDepth 100000
namespace Go.Q
open Go.V
theorem is17 : fnS TP (shOf FN) 40 F17.ps 17 = some F17 := by kernel_rfl
theorem is68 : fnS TP (shOf FN) 40 F68.ps 68 = some F68 := by kernel_rfl
theorem is74 : fnS TP (shOf FN) 40 F74.ps 74 = some F74 := by kernel_rfl
theorem is75 : fnS TP (shOf FN) 40 F75.ps 75 = some F75 := by kernel_rfl
theorem is77 : fnS TP (shOf FN) 40 F77.ps 77 = some F77 := by kernel_rfl
theorem is78 : fnS TP (shOf FN) 40 F78.ps 78 = some F78 := by kernel_rfl
theorem is79 : fnS TP (shOf FN) 40 F79.ps 79 = some F79 := by kernel_rfl
theorem is83 : fnS TP (shOf FN) 40 F83.ps 83 = some F83 := by kernel_rfl
theorem is86 : fnS TP (shOf FN) 40 F86.ps 86 = some F86 := by kernel_rfl
theorem is133 : fnS TP (shOf FN) 40 F133.ps 133 = some F133 := by kernel_rfl
theorem is136 : fnS TP (shOf FN) 40 F136.ps 136 = some F136 := by kernel_rfl
theorem is138 : fnS TP (shOf FN) 40 F138.ps 138 = some F138 := by kernel_rfl
theorem is139 : fnS TP (shOf FN) 40 F139.ps 139 = some F139 := by kernel_rfl
theorem is142 : fnS TP (shOf FN) 40 F142.ps 142 = some F142 := by kernel_rfl
theorem is143 : fnS TP (shOf FN) 40 F143.ps 143 = some F143 := by kernel_rfl
theorem is202 : fnS TP (shOf FN) 40 F202.ps 202 = some F202 := by kernel_rfl
end Go.Q
