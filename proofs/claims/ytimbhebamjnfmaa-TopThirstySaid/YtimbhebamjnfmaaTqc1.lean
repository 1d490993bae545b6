/- The trees are the functions'. -/
import Derived.Test.YtimbhebamjnfmaaTqd
set_option linter.unusedVariables false
set_option maxRecDepth 100000
namespace Go.Q
open Go.V
theorem is26 : fnS TP (shOf FN) 40 F26.ps 26 = some F26 := by kernel_rfl
theorem is40 : fnS TP (shOf FN) 40 F40.ps 40 = some F40 := by kernel_rfl
theorem is95 : fnS TP (shOf FN) 40 F95.ps 95 = some F95 := by kernel_rfl
theorem is101 : fnS TP (shOf FN) 40 F101.ps 101 = some F101 := by kernel_rfl
theorem is103 : fnS TP (shOf FN) 40 F103.ps 103 = some F103 := by kernel_rfl
theorem is116 : fnS TP (shOf FN) 40 F116.ps 116 = some F116 := by kernel_rfl
theorem is120 : fnS TP (shOf FN) 40 F120.ps 120 = some F120 := by kernel_rfl
theorem is124 : fnS TP (shOf FN) 40 F124.ps 124 = some F124 := by kernel_rfl
theorem is149 : fnS TP (shOf FN) 40 F149.ps 149 = some F149 := by kernel_rfl
theorem is150 : fnS TP (shOf FN) 40 F150.ps 150 = some F150 := by kernel_rfl
theorem is151 : fnS TP (shOf FN) 40 F151.ps 151 = some F151 := by kernel_rfl
theorem is152 : fnS TP (shOf FN) 40 F152.ps 152 = some F152 := by kernel_rfl
theorem is155 : fnS TP (shOf FN) 40 F155.ps 155 = some F155 := by kernel_rfl
theorem is162 : fnS TP (shOf FN) 40 F162.ps 162 = some F162 := by kernel_rfl
theorem is163 : fnS TP (shOf FN) 40 F163.ps 163 = some F163 := by kernel_rfl
theorem is167 : fnS TP (shOf FN) 40 F167.ps 167 = some F167 := by kernel_rfl
theorem is168 : fnS TP (shOf FN) 40 F168.ps 168 = some F168 := by kernel_rfl
theorem is191 : fnS TP (shOf FN) 40 F191.ps 191 = some F191 := by kernel_rfl
theorem is193 : fnS TP (shOf FN) 40 F193.ps 193 = some F193 := by kernel_rfl
theorem is196 : fnS TP (shOf FN) 40 F196.ps 196 = some F196 := by kernel_rfl
end Go.Q
