/- The trees are the functions'. -/
import Derived.Test.YtimbhebamjnfmaaMqd
set_option linter.unusedVariables false
set_option maxRecDepth 100000
namespace Go.Q
open Go.V
theorem is14 : fnS TP (shOf FN) 40 F14.ps 14 = some F14 := by kernel_rfl
theorem is15 : fnS TP (shOf FN) 40 F15.ps 15 = some F15 := by kernel_rfl
theorem is18 : fnS TP (shOf FN) 40 F18.ps 18 = some F18 := by kernel_rfl
theorem is19 : fnS TP (shOf FN) 40 F19.ps 19 = some F19 := by kernel_rfl
theorem is20 : fnS TP (shOf FN) 40 F20.ps 20 = some F20 := by kernel_rfl
theorem is73 : fnS TP (shOf FN) 40 F73.ps 73 = some F73 := by kernel_rfl
theorem is76 : fnS TP (shOf FN) 40 F76.ps 76 = some F76 := by kernel_rfl
theorem is80 : fnS TP (shOf FN) 40 F80.ps 80 = some F80 := by kernel_rfl
theorem is82 : fnS TP (shOf FN) 40 F82.ps 82 = some F82 := by kernel_rfl
theorem is84 : fnS TP (shOf FN) 40 F84.ps 84 = some F84 := by kernel_rfl
theorem is85 : fnS TP (shOf FN) 40 F85.ps 85 = some F85 := by kernel_rfl
theorem is87 : fnS TP (shOf FN) 40 F87.ps 87 = some F87 := by kernel_rfl
theorem is88 : fnS TP (shOf FN) 40 F88.ps 88 = some F88 := by kernel_rfl
theorem is131 : fnS TP (shOf FN) 40 F131.ps 131 = some F131 := by kernel_rfl
theorem is137 : fnS TP (shOf FN) 40 F137.ps 137 = some F137 := by kernel_rfl
theorem is140 : fnS TP (shOf FN) 40 F140.ps 140 = some F140 := by kernel_rfl
theorem is141 : fnS TP (shOf FN) 40 F141.ps 141 = some F141 := by kernel_rfl
theorem is144 : fnS TP (shOf FN) 40 F144.ps 144 = some F144 := by kernel_rfl
theorem is184 : fnS TP (shOf FN) 40 F184.ps 184 = some F184 := by kernel_rfl
theorem is185 : fnS TP (shOf FN) 40 F185.ps 185 = some F185 := by kernel_rfl
theorem is201 : fnS TP (shOf FN) 40 F201.ps 201 = some F201 := by kernel_rfl
theorem is205 : fnS TP (shOf FN) 40 F205.ps 205 = some F205 := by kernel_rfl
end Go.Q
