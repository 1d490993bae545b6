/- The trees are the functions'. -/
import Derived.Test.YtiailejekbnkgaaGreatLzd
set_option linter.unusedVariables false
set_option maxRecDepth 100000
namespace Go.Q
open Go.V
theorem is10 : fnS TP (shOf FN) 40 F10.ps 10 = some F10 := by kernel_rfl
theorem is11 : fnS TP (shOf FN) 40 F11.ps 11 = some F11 := by kernel_rfl
theorem is14 : fnS TP (shOf FN) 40 F14.ps 14 = some F14 := by kernel_rfl
theorem is41 : fnS TP (shOf FN) 40 F41.ps 41 = some F41 := by kernel_rfl
theorem is42 : fnS TP (shOf FN) 40 F42.ps 42 = some F42 := by kernel_rfl
theorem is43 : fnS TP (shOf FN) 40 F43.ps 43 = some F43 := by kernel_rfl
theorem is51 : fnS TP (shOf FN) 40 F51.ps 51 = some F51 := by kernel_rfl
theorem is99 : fnS TP (shOf FN) 40 F99.ps 99 = some F99 := by kernel_rfl
theorem is143 : fnS TP (shOf FN) 40 F143.ps 143 = some F143 := by kernel_rfl
theorem is144 : fnS TP (shOf FN) 40 F144.ps 144 = some F144 := by kernel_rfl
end Go.Q
