/- The trees are the functions'. -/
import Derived.Test.YtpdnchpjolkcfaaKnd
set_option linter.unusedVariables false
set_option maxRecDepth 100000
namespace Go.Q
open Go.V
theorem is20 : fnS TP (shOf FN) 40 F20.ps 20 = some F20 := by kernel_rfl
theorem is25 : fnS TP (shOf FN) 40 F25.ps 25 = some F25 := by kernel_rfl
theorem is26 : fnS TP (shOf FN) 40 F26.ps 26 = some F26 := by kernel_rfl
theorem is27 : fnS TP (shOf FN) 40 F27.ps 27 = some F27 := by kernel_rfl
theorem is59 : fnS TP (shOf FN) 40 F59.ps 59 = some F59 := by kernel_rfl
theorem is62 : fnS TP (shOf FN) 40 F62.ps 62 = some F62 := by kernel_rfl
theorem is66 : fnS TP (shOf FN) 40 F66.ps 66 = some F66 := by kernel_rfl
theorem is68 : fnS TP (shOf FN) 40 F68.ps 68 = some F68 := by kernel_rfl
theorem is87 : fnS TP (shOf FN) 40 F87.ps 87 = some F87 := by kernel_rfl
theorem is95 : fnS TP (shOf FN) 40 F95.ps 95 = some F95 := by kernel_rfl
theorem is97 : fnS TP (shOf FN) 40 F97.ps 97 = some F97 := by kernel_rfl
theorem is101 : fnS TP (shOf FN) 40 F101.ps 101 = some F101 := by kernel_rfl
theorem is106 : fnS TP (shOf FN) 40 F106.ps 106 = some F106 := by kernel_rfl
end Go.Q
