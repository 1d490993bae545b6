/- Ported: arguments -/
import Derived.Test.YtimbhebamjnfmaaPa0
import Derived.Test.YtimbhebamjnfmaaJL
set_option linter.unusedVariables false
set_option linter.unusedSimpArgs false
set_option maxRecDepth 100000
namespace Go.Q
open Go.V
abbrev U8 (n : Int) : D := .int .u8 n
abbrev U32 (n : Int) : D := .int .u32 n
abbrev KI : Kd := .int .i64
theorem maxLen_le : maxLen ≤ 9223372036854775807 := by decide
theorem i64_wf {n : Int} (h : (Lit.int .i64 n).wf = true) : -9223372036854775808 ≤ n ∧ n ≤ 9223372036854775807 := by
  simp only [Lit.wf, Bool.and_eq_true, decide_eq_true_eq] at h
  have h1 : IntKind.i64.min = -9223372036854775808 := by decide
  have h2 : IntKind.i64.max = 9223372036854775807 := by decide
  rw [h1, h2] at h
  exact h
theorem conf_int {d : D} (h : Conf KI d) : ∃ n, d = I n ∧ -9223372036854775808 ≤ n ∧ n ≤ 9223372036854775807 := by
  obtain ⟨n, rfl, hn⟩ := h
  exact ⟨n, rfl, i64_wf hn⟩
theorem conf_list {α : Type} {g : α → List D} {ks : List Kd} {d : D} (h : Conf (.list ks) d) (hg : ∀ x, ConfL ks x → ∃ a, x = g a) : ∃ l : List α, d = .list (l.map g) ∧ l.length ≤ 9223372036854775807 := by
  obtain ⟨xs, rfl, hl, hx⟩ := h
  have key : ∀ xs : List (List D), (∀ x ∈ xs, ConfL ks x) → ∃ l : List α, xs = l.map g := by
    intro xs
    induction xs with
    | nil => intro _; exact ⟨[], rfl⟩
    | cons x xs ih =>
      intro h
      obtain ⟨a, rfl⟩ := hg x (h x (by simp))
      obtain ⟨l, rfl⟩ := ih fun y hy => h y (by simp [hy])
      exact ⟨a :: l, rfl⟩
  obtain ⟨l, rfl⟩ := key xs hx
  refine ⟨l, rfl, ?_⟩
  rw [List.length_map] at hl
  have := maxLen_le
  omega
theorem conf_u32 {d : D} (h : Conf (.int .u32) d) : ∃ n, d = U32 n ∧ 0 ≤ n ∧ n ≤ 4294967295 := by
  obtain ⟨n, rfl, hn⟩ := h
  refine ⟨n, rfl, ?_⟩
  simp only [Lit.wf, Bool.and_eq_true, decide_eq_true_eq] at hn
  have h1 : IntKind.u32.min = 0 := by decide
  have h2 : IntKind.u32.max = 4294967295 := by decide
  rw [h1, h2] at hn
  exact hn
abbrev KG : Kd := .list [KI, KI, KI, KI]
end Go.Q
