/- The trees are the functions'. -/
import Derived.Test.YtpdnchpjolkcfaaKnd
set_option linter.unusedVariables false
set_option maxRecDepth 100000
namespace Go.Q
open Go.V
theorem is21 : fnS TP (shOf FN) 40 F21.ps 21 = some F21 := by kernel_rfl
theorem is22 : fnS TP (shOf FN) 40 F22.ps 22 = some F22 := by kernel_rfl
theorem is24 : fnS TP (shOf FN) 40 F24.ps 24 = some F24 := by kernel_rfl
theorem is58 : fnS TP (shOf FN) 40 F58.ps 58 = some F58 := by kernel_rfl
theorem is61 : fnS TP (shOf FN) 40 F61.ps 61 = some F61 := by kernel_rfl
theorem is63 : fnS TP (shOf FN) 40 F63.ps 63 = some F63 := by kernel_rfl
theorem is64 : fnS TP (shOf FN) 40 F64.ps 64 = some F64 := by kernel_rfl
theorem is67 : fnS TP (shOf FN) 40 F67.ps 67 = some F67 := by kernel_rfl
theorem is69 : fnS TP (shOf FN) 40 F69.ps 69 = some F69 := by kernel_rfl
theorem is96 : fnS TP (shOf FN) 40 F96.ps 96 = some F96 := by kernel_rfl
theorem is99 : fnS TP (shOf FN) 40 F99.ps 99 = some F99 := by kernel_rfl
theorem is103 : fnS TP (shOf FN) 40 F103.ps 103 = some F103 := by kernel_rfl
theorem is107 : fnS TP (shOf FN) 40 F107.ps 107 = some F107 := by kernel_rfl
end Go.Q
