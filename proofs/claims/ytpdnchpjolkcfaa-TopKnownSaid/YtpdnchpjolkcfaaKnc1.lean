/- The trees are the functions'. -/
import Derived.Test.YtpdnchpjolkcfaaKnd
set_option linter.unusedVariables false
set_option maxRecDepth 100000
namespace Go.Q
open Go.V
theorem is4 : fnS TP (shOf FN) 40 F4.ps 4 = some F4 := by kernel_rfl
theorem is19 : fnS TP (shOf FN) 40 F19.ps 19 = some F19 := by kernel_rfl
theorem is23 : fnS TP (shOf FN) 40 F23.ps 23 = some F23 := by kernel_rfl
theorem is60 : fnS TP (shOf FN) 40 F60.ps 60 = some F60 := by kernel_rfl
theorem is88 : fnS TP (shOf FN) 40 F88.ps 88 = some F88 := by kernel_rfl
theorem is93 : fnS TP (shOf FN) 40 F93.ps 93 = some F93 := by kernel_rfl
theorem is94 : fnS TP (shOf FN) 40 F94.ps 94 = some F94 := by kernel_rfl
theorem is98 : fnS TP (shOf FN) 40 F98.ps 98 = some F98 := by kernel_rfl
theorem is102 : fnS TP (shOf FN) 40 F102.ps 102 = some F102 := by kernel_rfl
theorem is105 : fnS TP (shOf FN) 40 F105.ps 105 = some F105 := by kernel_rfl
theorem is108 : fnS TP (shOf FN) 40 F108.ps 108 = some F108 := by kernel_rfl
end Go.Q
