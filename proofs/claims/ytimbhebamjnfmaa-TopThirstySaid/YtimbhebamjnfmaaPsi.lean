/- Ported: arguments: breeds, camels, marches -/
import Derived.Test.YtimbhebamjnfmaaPa2
import Derived.Test.YtimbhebamjnfmaaPsh
set_option linter.unusedVariables false
set_option linter.unusedSimpArgs false
set_option maxRecDepth 100000
namespace Go.Q
open Go.V
theorem conf_br {x : List D} (h : ConfL [KI, KI, KI, KI, KI, KI, KI, KI, KI, KI, KI, KI, KI, KI, KI, KI, KI] x) : ∃ b : Br, x = b.d := by
  obtain ⟨d0, t0, rfl, h0, d1, t1, rfl, h1, d2, t2, rfl, h2, d3, t3, rfl, h3, d4, t4, rfl, h4, d5, t5, rfl, h5, d6, t6, rfl, h6, d7, t7, rfl, h7, d8, t8, rfl, h8, d9, t9, rfl, h9, d10, t10, rfl, h10, d11, t11, rfl, h11, d12, t12, rfl, h12, d13, t13, rfl, h13, d14, t14, rfl, h14, d15, t15, rfl, h15, d16, t16, rfl, h16, h17⟩ := h
  rw [show t16 = [] from h17]
  obtain ⟨a0, rfl, -⟩ := conf_int h0
  obtain ⟨a1, rfl, -⟩ := conf_int h1
  obtain ⟨a2, rfl, -⟩ := conf_int h2
  obtain ⟨a3, rfl, -⟩ := conf_int h3
  obtain ⟨a4, rfl, -⟩ := conf_int h4
  obtain ⟨a5, rfl, -⟩ := conf_int h5
  obtain ⟨a6, rfl, -⟩ := conf_int h6
  obtain ⟨a7, rfl, -⟩ := conf_int h7
  obtain ⟨a8, rfl, -⟩ := conf_int h8
  obtain ⟨a9, rfl, -⟩ := conf_int h9
  obtain ⟨a10, rfl, -⟩ := conf_int h10
  obtain ⟨a11, rfl, -⟩ := conf_int h11
  obtain ⟨a12, rfl, -⟩ := conf_int h12
  obtain ⟨a13, rfl, -⟩ := conf_int h13
  obtain ⟨a14, rfl, -⟩ := conf_int h14
  obtain ⟨a15, rfl, -⟩ := conf_int h15
  obtain ⟨a16, rfl, -⟩ := conf_int h16
  exact ⟨⟨a0, a1, a2, a3, a4, a5, a6, a7, a8, a9, a10, a11, a12, a13, a14, a15, a16⟩, rfl⟩
theorem conf_cm {x : List D} (h : ConfL [KI, KI, KI, KI, KI, KI, .bool] x) : ∃ b : Cm, x = b.d := by
  obtain ⟨d0, t0, rfl, h0, d1, t1, rfl, h1, d2, t2, rfl, h2, d3, t3, rfl, h3, d4, t4, rfl, h4, d5, t5, rfl, h5, d6, t6, rfl, h6, h7⟩ := h
  rw [show t6 = [] from h7]
  obtain ⟨a0, rfl, -⟩ := conf_int h0
  obtain ⟨a1, rfl, -⟩ := conf_int h1
  obtain ⟨a2, rfl, -⟩ := conf_int h2
  obtain ⟨a3, rfl, -⟩ := conf_int h3
  obtain ⟨a4, rfl, -⟩ := conf_int h4
  obtain ⟨a5, rfl, -⟩ := conf_int h5
  obtain ⟨a6, rfl⟩ := h6
  exact ⟨⟨a0, a1, a2, a3, a4, a5, a6⟩, rfl⟩
theorem conf_mr {x : List D} (h : ConfL [KI, KI, KI, KI, KI, KI, KI, KI] x) : ∃ b : Mr, x = b.d := by
  obtain ⟨d0, t0, rfl, h0, d1, t1, rfl, h1, d2, t2, rfl, h2, d3, t3, rfl, h3, d4, t4, rfl, h4, d5, t5, rfl, h5, d6, t6, rfl, h6, d7, t7, rfl, h7, h8⟩ := h
  rw [show t7 = [] from h8]
  obtain ⟨a0, rfl, -⟩ := conf_int h0
  obtain ⟨a1, rfl, -⟩ := conf_int h1
  obtain ⟨a2, rfl, -⟩ := conf_int h2
  obtain ⟨a3, rfl, -⟩ := conf_int h3
  obtain ⟨a4, rfl, -⟩ := conf_int h4
  obtain ⟨a5, rfl, -⟩ := conf_int h5
  obtain ⟨a6, rfl, -⟩ := conf_int h6
  obtain ⟨a7, rfl, -⟩ := conf_int h7
  exact ⟨⟨a0, a1, a2, a3, a4, a5, a6, a7⟩, rfl⟩
end Go.Q
