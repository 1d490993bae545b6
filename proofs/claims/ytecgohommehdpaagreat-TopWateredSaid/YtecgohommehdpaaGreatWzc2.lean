/- The trees are the functions'. -/
import Derived.Test.YtecgohommehdpaaGreatWzd
set_option linter.unusedVariables false
set_option maxRecDepth 100000
namespace Go.Q
open Go.V
theorem is14 : fnS TP (shOf FN) 40 F14.ps 14 = some F14 := by kernel_rfl
theorem is18 : fnS TP (shOf FN) 40 F18.ps 18 = some F18 := by kernel_rfl
theorem is20 : fnS TP (shOf FN) 40 F20.ps 20 = some F20 := by kernel_rfl
theorem is21 : fnS TP (shOf FN) 40 F21.ps 21 = some F21 := by kernel_rfl
theorem is24 : fnS TP (shOf FN) 40 F24.ps 24 = some F24 := by kernel_rfl
theorem is53 : fnS TP (shOf FN) 40 F53.ps 53 = some F53 := by kernel_rfl
theorem is54 : fnS TP (shOf FN) 40 F54.ps 54 = some F54 := by kernel_rfl
theorem is60 : fnS TP (shOf FN) 40 F60.ps 60 = some F60 := by kernel_rfl
theorem is61 : fnS TP (shOf FN) 40 F61.ps 61 = some F61 := by kernel_rfl
theorem is62 : fnS TP (shOf FN) 40 F62.ps 62 = some F62 := by kernel_rfl
theorem is66 : fnS TP (shOf FN) 40 F66.ps 66 = some F66 := by kernel_rfl
theorem is69 : fnS TP (shOf FN) 40 F69.ps 69 = some F69 := by kernel_rfl
theorem is87 : fnS TP (shOf FN) 40 F87.ps 87 = some F87 := by kernel_rfl
theorem is88 : fnS TP (shOf FN) 40 F88.ps 88 = some F88 := by kernel_rfl
theorem is95 : fnS TP (shOf FN) 40 F95.ps 95 = some F95 := by kernel_rfl
theorem is119 : fnS TP (shOf FN) 40 F119.ps 119 = some F119 := by kernel_rfl
theorem is136 : fnS TP (shOf FN) 40 F136.ps 136 = some F136 := by kernel_rfl
end Go.Q
