/- The trees are the functions'. -/
import Derived.Test.YtpammdlgoeoeaaaGad
set_option linter.unusedVariables false
set_option maxRecDepth 100000
namespace Go.Q
open Go.V
theorem is28 : fnS TP (shOf FN) 40 F28.ps 28 = some F28 := by kernel_rfl
theorem is33 : fnS TP (shOf FN) 40 F33.ps 33 = some F33 := by kernel_rfl
theorem is37 : fnS TP (shOf FN) 40 F37.ps 37 = some F37 := by kernel_rfl
theorem is45 : fnS TP (shOf FN) 40 F45.ps 45 = some F45 := by kernel_rfl
theorem is52 : fnS TP (shOf FN) 40 F52.ps 52 = some F52 := by kernel_rfl
theorem is63 : fnS TP (shOf FN) 40 F63.ps 63 = some F63 := by kernel_rfl
theorem is66 : fnS TP (shOf FN) 40 F66.ps 66 = some F66 := by kernel_rfl
theorem is67 : fnS TP (shOf FN) 40 F67.ps 67 = some F67 := by kernel_rfl
theorem is71 : fnS TP (shOf FN) 40 F71.ps 71 = some F71 := by kernel_rfl
theorem is72 : fnS TP (shOf FN) 40 F72.ps 72 = some F72 := by kernel_rfl
theorem is75 : fnS TP (shOf FN) 40 F75.ps 75 = some F75 := by kernel_rfl
theorem is77 : fnS TP (shOf FN) 40 F77.ps 77 = some F77 := by kernel_rfl
theorem is82 : fnS TP (shOf FN) 40 F82.ps 82 = some F82 := by kernel_rfl
end Go.Q
