/- The trees are the functions'. -/
import Derived.Test.YtpammdlgoeoeaaaGad
set_option linter.unusedVariables false
set_option maxRecDepth 100000
namespace Go.Q
open Go.V
theorem is14 : fnS TP (shOf FN) 40 F14.ps 14 = some F14 := by kernel_rfl
theorem is15 : fnS TP (shOf FN) 40 F15.ps 15 = some F15 := by kernel_rfl
theorem is23 : fnS TP (shOf FN) 40 F23.ps 23 = some F23 := by kernel_rfl
theorem is26 : fnS TP (shOf FN) 40 F26.ps 26 = some F26 := by kernel_rfl
theorem is28 : fnS TP (shOf FN) 40 F28.ps 28 = some F28 := by kernel_rfl
theorem is36 : fnS TP (shOf FN) 40 F36.ps 36 = some F36 := by kernel_rfl
theorem is39 : fnS TP (shOf FN) 40 F39.ps 39 = some F39 := by kernel_rfl
theorem is63 : fnS TP (shOf FN) 40 F63.ps 63 = some F63 := by kernel_rfl
theorem is64 : fnS TP (shOf FN) 40 F64.ps 64 = some F64 := by kernel_rfl
theorem is66 : fnS TP (shOf FN) 40 F66.ps 66 = some F66 := by kernel_rfl
theorem is67 : fnS TP (shOf FN) 40 F67.ps 67 = some F67 := by kernel_rfl
theorem is69 : fnS TP (shOf FN) 40 F69.ps 69 = some F69 := by kernel_rfl
theorem is77 : fnS TP (shOf FN) 40 F77.ps 77 = some F77 := by kernel_rfl
theorem is82 : fnS TP (shOf FN) 40 F82.ps 82 = some F82 := by kernel_rfl
theorem is102 : fnS TP (shOf FN) 40 F102.ps 102 = some F102 := by kernel_rfl
end Go.Q
