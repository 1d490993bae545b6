/- Camel: one march sixty times. -/
import Derived.Test.YtecgohommehdpaaRa9
set_option linter.unusedVariables false
set_option linter.unusedSimpArgs false
set_option maxRecDepth 100000
namespace Go.Q
open Go.V
theorem e109 (m : Mr) : evL FN 109 [.list [m.d], I 60] = some (.list (List.replicate 60 m.d)) := by
  refine evL_of (F := F109) rfl ?_
  unfold Mr.d
  show _ = _
  kernel_rfl
theorem shal_mr {n : Nat} {xs : List Mr} : D.shal (n + 1) (.list (xs.map Mr.d)) = true := by
  simp only [D.shal, D.shal1, D.shal0]
  rw [Bool.and_eq_true, List.all_eq_true]
  refine ⟨by simp, fun x hx => ?_⟩
  obtain ⟨m, -, rfl⟩ := List.mem_map.1 hx
  cases n <;> rfl
end Go.Q
