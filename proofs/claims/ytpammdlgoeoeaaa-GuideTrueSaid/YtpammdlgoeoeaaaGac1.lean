/- The trees are the functions'. -/
import Derived.Test.YtpammdlgoeoeaaaGad
set_option linter.unusedVariables false
set_option maxRecDepth 100000
namespace Go.Q
open Go.V
theorem is4 : fnS TP (shOf FN) 40 F4.ps 4 = some F4 := by kernel_rfl
theorem is12 : fnS TP (shOf FN) 40 F12.ps 12 = some F12 := by kernel_rfl
theorem is27 : fnS TP (shOf FN) 40 F27.ps 27 = some F27 := by kernel_rfl
theorem is32 : fnS TP (shOf FN) 40 F32.ps 32 = some F32 := by kernel_rfl
theorem is33 : fnS TP (shOf FN) 40 F33.ps 33 = some F33 := by kernel_rfl
theorem is35 : fnS TP (shOf FN) 40 F35.ps 35 = some F35 := by kernel_rfl
theorem is53 : fnS TP (shOf FN) 40 F53.ps 53 = some F53 := by kernel_rfl
theorem is57 : fnS TP (shOf FN) 40 F57.ps 57 = some F57 := by kernel_rfl
theorem is70 : fnS TP (shOf FN) 40 F70.ps 70 = some F70 := by kernel_rfl
theorem is75 : fnS TP (shOf FN) 40 F75.ps 75 = some F75 := by kernel_rfl
theorem is76 : fnS TP (shOf FN) 40 F76.ps 76 = some F76 := by kernel_rfl
theorem is84 : fnS TP (shOf FN) 40 F84.ps 84 = some F84 := by kernel_rfl
theorem is90 : fnS TP (shOf FN) 40 F90.ps 90 = some F90 := by kernel_rfl
theorem is95 : fnS TP (shOf FN) 40 F95.ps 95 = some F95 := by kernel_rfl
theorem is97 : fnS TP (shOf FN) 40 F97.ps 97 = some F97 := by kernel_rfl
end Go.Q
