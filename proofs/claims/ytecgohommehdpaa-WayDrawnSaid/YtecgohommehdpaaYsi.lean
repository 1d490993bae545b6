/- Arguments: draws. -/
import Derived.Test.YtecgohommehdpaaYp
set_option linter.unusedVariables false
set_option linter.unusedSimpArgs false
set_option maxRecDepth 100000
namespace Go.Q
open Go.V Go.ChangeShapes Go.WideShapes Go.ChangeAt Go.RowKit
theorem conf_dw {x : List D} (h : ConfL [KI, KI, KI] x) : ∃ b : Dw, x = b.d := by
  obtain ⟨d0, t0, rfl, h0, d1, t1, rfl, h1, d2, t2, rfl, h2, h3⟩ := h
  rw [show t2 = [] from h3]
  obtain ⟨a0, rfl, -⟩ := conf_int h0
  obtain ⟨a1, rfl, -⟩ := conf_int h1
  obtain ⟨a2, rfl, -⟩ := conf_int h2
  exact ⟨⟨a0, a1, a2⟩, rfl⟩
theorem conf_draws {d : D} (h : Conf (.list [KI, KI, KI]) d) : ∃ xs : List Dw, d = dws xs ∧ xs.length ≤ 9223372036854775807 := conf_list h fun x hx => conf_dw hx
theorem conf_u16 {d : D} (h : Conf (.int .u16) d) : ∃ n, d = .int .u16 n ∧ 0 ≤ n ∧ n ≤ 65535 := by
  obtain ⟨n, rfl, hn⟩ := h
  refine ⟨n, rfl, ?_⟩
  simp only [Lit.wf, Bool.and_eq_true, decide_eq_true_eq] at hn
  have h1 : IntKind.u16.min = 0 := by decide
  have h2 : IntKind.u16.max = 65535 := by decide
  rw [h1, h2] at hn
  exact hn
end Go.Q
