/- The trees are the functions'. -/
import Derived.Test.YtimbhebamjnfmaaTqd
set_option linter.unusedVariables false
set_option maxRecDepth 100000
namespace Go.Q
open Go.V
theorem is8 : fnS TP (shOf FN) 40 F8.ps 8 = some F8 := by kernel_rfl
theorem is33 : fnS TP (shOf FN) 40 F33.ps 33 = some F33 := by kernel_rfl
theorem is34 : fnS TP (shOf FN) 40 F34.ps 34 = some F34 := by kernel_rfl
theorem is35 : fnS TP (shOf FN) 40 F35.ps 35 = some F35 := by kernel_rfl
theorem is39 : fnS TP (shOf FN) 40 F39.ps 39 = some F39 := by kernel_rfl
theorem is41 : fnS TP (shOf FN) 40 F41.ps 41 = some F41 := by kernel_rfl
theorem is96 : fnS TP (shOf FN) 40 F96.ps 96 = some F96 := by kernel_rfl
theorem is100 : fnS TP (shOf FN) 40 F100.ps 100 = some F100 := by kernel_rfl
theorem is108 : fnS TP (shOf FN) 40 F108.ps 108 = some F108 := by kernel_rfl
theorem is115 : fnS TP (shOf FN) 40 F115.ps 115 = some F115 := by kernel_rfl
theorem is118 : fnS TP (shOf FN) 40 F118.ps 118 = some F118 := by kernel_rfl
theorem is121 : fnS TP (shOf FN) 40 F121.ps 121 = some F121 := by kernel_rfl
theorem is125 : fnS TP (shOf FN) 40 F125.ps 125 = some F125 := by kernel_rfl
theorem is146 : fnS TP (shOf FN) 40 F146.ps 146 = some F146 := by kernel_rfl
theorem is153 : fnS TP (shOf FN) 40 F153.ps 153 = some F153 := by kernel_rfl
theorem is156 : fnS TP (shOf FN) 40 F156.ps 156 = some F156 := by kernel_rfl
theorem is164 : fnS TP (shOf FN) 40 F164.ps 164 = some F164 := by kernel_rfl
theorem is169 : fnS TP (shOf FN) 40 F169.ps 169 = some F169 := by kernel_rfl
theorem is173 : fnS TP (shOf FN) 40 F173.ps 173 = some F173 := by kernel_rfl
theorem is190 : fnS TP (shOf FN) 40 F190.ps 190 = some F190 := by kernel_rfl
theorem is195 : fnS TP (shOf FN) 40 F195.ps 195 = some F195 := by kernel_rfl
end Go.Q
