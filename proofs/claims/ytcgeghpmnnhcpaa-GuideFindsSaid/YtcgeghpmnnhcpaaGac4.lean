/- The trees are the functions'. -/
import Derived.Test.YtcgeghpmnnhcpaaGad
set_option linter.unusedVariables false
set_option maxRecDepth 100000
namespace Go.Q
open Go.V
theorem is8 : fnS TP (shOf FN) 40 F8.ps 8 = some F8 := by kernel_rfl
theorem is17 : fnS TP (shOf FN) 40 F17.ps 17 = some F17 := by kernel_rfl
theorem is18 : fnS TP (shOf FN) 40 F18.ps 18 = some F18 := by kernel_rfl
theorem is26 : fnS TP (shOf FN) 40 F26.ps 26 = some F26 := by kernel_rfl
theorem is32 : fnS TP (shOf FN) 40 F32.ps 32 = some F32 := by kernel_rfl
theorem is40 : fnS TP (shOf FN) 40 F40.ps 40 = some F40 := by kernel_rfl
theorem is42 : fnS TP (shOf FN) 40 F42.ps 42 = some F42 := by kernel_rfl
theorem is46 : fnS TP (shOf FN) 40 F46.ps 46 = some F46 := by kernel_rfl
theorem is56 : fnS TP (shOf FN) 40 F56.ps 56 = some F56 := by kernel_rfl
theorem is64 : fnS TP (shOf FN) 40 F64.ps 64 = some F64 := by kernel_rfl
theorem is65 : fnS TP (shOf FN) 40 F65.ps 65 = some F65 := by kernel_rfl
theorem is67 : fnS TP (shOf FN) 40 F67.ps 67 = some F67 := by kernel_rfl
theorem is72 : fnS TP (shOf FN) 40 F72.ps 72 = some F72 := by kernel_rfl
theorem is86 : fnS TP (shOf FN) 40 F86.ps 86 = some F86 := by kernel_rfl
theorem is96 : fnS TP (shOf FN) 40 F96.ps 96 = some F96 := by kernel_rfl
theorem is102 : fnS TP (shOf FN) 40 F102.ps 102 = some F102 := by kernel_rfl
end Go.Q
