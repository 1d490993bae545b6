/- The trees are the functions'. -/
import Derived.Test.YtcgeghpmnnhcpaaGad
set_option linter.unusedVariables false
set_option maxRecDepth 100000
namespace Go.Q
open Go.V
theorem is12 : fnS TP (shOf FN) 40 F12.ps 12 = some F12 := by kernel_rfl
theorem is16 : fnS TP (shOf FN) 40 F16.ps 16 = some F16 := by kernel_rfl
theorem is19 : fnS TP (shOf FN) 40 F19.ps 19 = some F19 := by kernel_rfl
theorem is24 : fnS TP (shOf FN) 40 F24.ps 24 = some F24 := by kernel_rfl
theorem is27 : fnS TP (shOf FN) 40 F27.ps 27 = some F27 := by kernel_rfl
theorem is41 : fnS TP (shOf FN) 40 F41.ps 41 = some F41 := by kernel_rfl
theorem is45 : fnS TP (shOf FN) 40 F45.ps 45 = some F45 := by kernel_rfl
theorem is52 : fnS TP (shOf FN) 40 F52.ps 52 = some F52 := by kernel_rfl
theorem is53 : fnS TP (shOf FN) 40 F53.ps 53 = some F53 := by kernel_rfl
theorem is54 : fnS TP (shOf FN) 40 F54.ps 54 = some F54 := by kernel_rfl
theorem is57 : fnS TP (shOf FN) 40 F57.ps 57 = some F57 := by kernel_rfl
theorem is58 : fnS TP (shOf FN) 40 F58.ps 58 = some F58 := by kernel_rfl
theorem is66 : fnS TP (shOf FN) 40 F66.ps 66 = some F66 := by kernel_rfl
theorem is73 : fnS TP (shOf FN) 40 F73.ps 73 = some F73 := by kernel_rfl
theorem is77 : fnS TP (shOf FN) 40 F77.ps 77 = some F77 := by kernel_rfl
theorem is85 : fnS TP (shOf FN) 40 F85.ps 85 = some F85 := by kernel_rfl
theorem is103 : fnS TP (shOf FN) 40 F103.ps 103 = some F103 := by kernel_rfl
end Go.Q
