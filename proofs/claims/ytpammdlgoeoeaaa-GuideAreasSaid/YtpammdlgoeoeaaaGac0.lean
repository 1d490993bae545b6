/- The trees are the functions'. -/
import Derived.Test.YtpammdlgoeoeaaaGad
set_option linter.unusedVariables false
set_option maxRecDepth 100000
namespace Go.Q
open Go.V
theorem is4 : fnS TP (shOf FN) 40 F4.ps 4 = some F4 := by kernel_rfl
theorem is21 : fnS TP (shOf FN) 40 F21.ps 21 = some F21 := by kernel_rfl
theorem is30 : fnS TP (shOf FN) 40 F30.ps 30 = some F30 := by kernel_rfl
theorem is45 : fnS TP (shOf FN) 40 F45.ps 45 = some F45 := by kernel_rfl
theorem is53 : fnS TP (shOf FN) 40 F53.ps 53 = some F53 := by kernel_rfl
theorem is57 : fnS TP (shOf FN) 40 F57.ps 57 = some F57 := by kernel_rfl
theorem is58 : fnS TP (shOf FN) 40 F58.ps 58 = some F58 := by kernel_rfl
theorem is60 : fnS TP (shOf FN) 40 F60.ps 60 = some F60 := by kernel_rfl
theorem is61 : fnS TP (shOf FN) 40 F61.ps 61 = some F61 := by kernel_rfl
theorem is71 : fnS TP (shOf FN) 40 F71.ps 71 = some F71 := by kernel_rfl
theorem is74 : fnS TP (shOf FN) 40 F74.ps 74 = some F74 := by kernel_rfl
theorem is75 : fnS TP (shOf FN) 40 F75.ps 75 = some F75 := by kernel_rfl
theorem is81 : fnS TP (shOf FN) 40 F81.ps 81 = some F81 := by kernel_rfl
theorem is84 : fnS TP (shOf FN) 40 F84.ps 84 = some F84 := by kernel_rfl
theorem is87 : fnS TP (shOf FN) 40 F87.ps 87 = some F87 := by kernel_rfl
theorem is89 : fnS TP (shOf FN) 40 F89.ps 89 = some F89 := by kernel_rfl
theorem is93 : fnS TP (shOf FN) 40 F93.ps 93 = some F93 := by kernel_rfl
theorem is102 : fnS TP (shOf FN) 40 F102.ps 102 = some F102 := by kernel_rfl
theorem is103 : fnS TP (shOf FN) 40 F103.ps 103 = some F103 := by kernel_rfl
end Go.Q
