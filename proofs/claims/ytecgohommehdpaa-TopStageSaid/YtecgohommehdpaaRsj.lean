/- Arguments: marches. -/
import Derived.Test.YtecgohommehdpaaRb6
import Derived.Test.YtecgohommehdpaaRsi
set_option linter.unusedVariables false
namespace Go.Q
open Go.V
theorem conf_mr {x : List D} (h : ConfL [KI, KI, KI, KI, KI, KI, KI, KI] x) : ∃ b : Mr, x = b.d := by
  obtain ⟨d0, t0, rfl, h0, d1, t1, rfl, h1, d2, t2, rfl, h2, d3, t3, rfl, h3, d4, t4, rfl, h4, d5, t5, rfl, h5, d6, t6, rfl, h6, d7, t7, rfl, h7, h8⟩ := h
  rw [show t7 = [] from h8]
  obtain ⟨a0, rfl, -⟩ := conf_int h0
  obtain ⟨a1, rfl, -⟩ := conf_int h1
  obtain ⟨a2, rfl, -⟩ := conf_int h2
  obtain ⟨a3, rfl, -⟩ := conf_int h3
  obtain ⟨a4, rfl, -⟩ := conf_int h4
  obtain ⟨a5, rfl, -⟩ := conf_int h5
  obtain ⟨a6, rfl, -⟩ := conf_int h6
  obtain ⟨a7, rfl, -⟩ := conf_int h7
  exact ⟨⟨a0, a1, a2, a3, a4, a5, a6, a7⟩, rfl⟩
end Go.Q
