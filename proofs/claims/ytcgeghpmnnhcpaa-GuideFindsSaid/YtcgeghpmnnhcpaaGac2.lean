/- The trees are the functions'. -/
import Derived.Test.YtcgeghpmnnhcpaaGad
set_option linter.unusedVariables false
set_option maxRecDepth 100000
namespace Go.Q
open Go.V
theorem is11 : fnS TP (shOf FN) 40 F11.ps 11 = some F11 := by kernel_rfl
theorem is15 : fnS TP (shOf FN) 40 F15.ps 15 = some F15 := by kernel_rfl
theorem is25 : fnS TP (shOf FN) 40 F25.ps 25 = some F25 := by kernel_rfl
theorem is29 : fnS TP (shOf FN) 40 F29.ps 29 = some F29 := by kernel_rfl
theorem is31 : fnS TP (shOf FN) 40 F31.ps 31 = some F31 := by kernel_rfl
theorem is34 : fnS TP (shOf FN) 40 F34.ps 34 = some F34 := by kernel_rfl
theorem is37 : fnS TP (shOf FN) 40 F37.ps 37 = some F37 := by kernel_rfl
theorem is44 : fnS TP (shOf FN) 40 F44.ps 44 = some F44 := by kernel_rfl
theorem is49 : fnS TP (shOf FN) 40 F49.ps 49 = some F49 := by kernel_rfl
theorem is50 : fnS TP (shOf FN) 40 F50.ps 50 = some F50 := by kernel_rfl
theorem is59 : fnS TP (shOf FN) 40 F59.ps 59 = some F59 := by kernel_rfl
theorem is71 : fnS TP (shOf FN) 40 F71.ps 71 = some F71 := by kernel_rfl
theorem is76 : fnS TP (shOf FN) 40 F76.ps 76 = some F76 := by kernel_rfl
theorem is78 : fnS TP (shOf FN) 40 F78.ps 78 = some F78 := by kernel_rfl
theorem is84 : fnS TP (shOf FN) 40 F84.ps 84 = some F84 := by kernel_rfl
end Go.Q
