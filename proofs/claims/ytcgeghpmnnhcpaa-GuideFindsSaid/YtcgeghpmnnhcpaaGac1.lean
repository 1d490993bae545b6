/- The trees are the functions'. -/
import Derived.Test.YtcgeghpmnnhcpaaGad
set_option linter.unusedVariables false
set_option maxRecDepth 100000
namespace Go.Q
open Go.V
theorem is9 : fnS TP (shOf FN) 40 F9.ps 9 = some F9 := by kernel_rfl
theorem is14 : fnS TP (shOf FN) 40 F14.ps 14 = some F14 := by kernel_rfl
theorem is20 : fnS TP (shOf FN) 40 F20.ps 20 = some F20 := by kernel_rfl
theorem is22 : fnS TP (shOf FN) 40 F22.ps 22 = some F22 := by kernel_rfl
theorem is28 : fnS TP (shOf FN) 40 F28.ps 28 = some F28 := by kernel_rfl
theorem is30 : fnS TP (shOf FN) 40 F30.ps 30 = some F30 := by kernel_rfl
theorem is47 : fnS TP (shOf FN) 40 F47.ps 47 = some F47 := by kernel_rfl
theorem is51 : fnS TP (shOf FN) 40 F51.ps 51 = some F51 := by kernel_rfl
theorem is60 : fnS TP (shOf FN) 40 F60.ps 60 = some F60 := by kernel_rfl
theorem is63 : fnS TP (shOf FN) 40 F63.ps 63 = some F63 := by kernel_rfl
theorem is69 : fnS TP (shOf FN) 40 F69.ps 69 = some F69 := by kernel_rfl
theorem is75 : fnS TP (shOf FN) 40 F75.ps 75 = some F75 := by kernel_rfl
theorem is83 : fnS TP (shOf FN) 40 F83.ps 83 = some F83 := by kernel_rfl
theorem is89 : fnS TP (shOf FN) 40 F89.ps 89 = some F89 := by kernel_rfl
theorem is94 : fnS TP (shOf FN) 40 F94.ps 94 = some F94 := by kernel_rfl
end Go.Q
