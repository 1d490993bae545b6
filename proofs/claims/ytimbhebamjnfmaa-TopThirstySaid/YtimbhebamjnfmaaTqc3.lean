/- The trees are the functions'. -/
import Derived.Test.YtimbhebamjnfmaaTqd
set_option linter.unusedVariables false
set_option maxRecDepth 100000
namespace Go.Q
open Go.V
theorem is32 : fnS TP (shOf FN) 40 F32.ps 32 = some F32 := by kernel_rfl
theorem is36 : fnS TP (shOf FN) 40 F36.ps 36 = some F36 := by kernel_rfl
theorem is37 : fnS TP (shOf FN) 40 F37.ps 37 = some F37 := by kernel_rfl
theorem is38 : fnS TP (shOf FN) 40 F38.ps 38 = some F38 := by kernel_rfl
theorem is106 : fnS TP (shOf FN) 40 F106.ps 106 = some F106 := by kernel_rfl
theorem is107 : fnS TP (shOf FN) 40 F107.ps 107 = some F107 := by kernel_rfl
theorem is112 : fnS TP (shOf FN) 40 F112.ps 112 = some F112 := by kernel_rfl
theorem is117 : fnS TP (shOf FN) 40 F117.ps 117 = some F117 := by kernel_rfl
theorem is119 : fnS TP (shOf FN) 40 F119.ps 119 = some F119 := by kernel_rfl
theorem is123 : fnS TP (shOf FN) 40 F123.ps 123 = some F123 := by kernel_rfl
theorem is145 : fnS TP (shOf FN) 40 F145.ps 145 = some F145 := by kernel_rfl
theorem is147 : fnS TP (shOf FN) 40 F147.ps 147 = some F147 := by kernel_rfl
theorem is148 : fnS TP (shOf FN) 40 F148.ps 148 = some F148 := by kernel_rfl
theorem is154 : fnS TP (shOf FN) 40 F154.ps 154 = some F154 := by kernel_rfl
theorem is166 : fnS TP (shOf FN) 40 F166.ps 166 = some F166 := by kernel_rfl
theorem is174 : fnS TP (shOf FN) 40 F174.ps 174 = some F174 := by kernel_rfl
theorem is176 : fnS TP (shOf FN) 40 F176.ps 176 = some F176 := by kernel_rfl
theorem is187 : fnS TP (shOf FN) 40 F187.ps 187 = some F187 := by kernel_rfl
theorem is192 : fnS TP (shOf FN) 40 F192.ps 192 = some F192 := by kernel_rfl
theorem is194 : fnS TP (shOf FN) 40 F194.ps 194 = some F194 := by kernel_rfl
theorem is203 : fnS TP (shOf FN) 40 F203.ps 203 = some F203 := by kernel_rfl
end Go.Q
