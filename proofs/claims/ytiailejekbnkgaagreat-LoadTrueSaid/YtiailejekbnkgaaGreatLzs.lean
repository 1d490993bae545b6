/- Load: arguments as they are read. -/
import Derived.Test.YtiailejekbnkgaaGreatLz2
import Derived.Test.YtiailejekbnkgaaGreatJL
set_option linter.unusedVariables false
set_option linter.unusedSimpArgs false
set_option maxRecDepth 100000
namespace Go.Q
open Go.V
abbrev KI : Kd := .int .i64
theorem maxLen_le : maxLen ≤ 9223372036854775807 := by decide
theorem conf_int {d : D} (h : Conf KI d) : ∃ n, d = I n := by
  obtain ⟨n, rfl, hn⟩ := h
  exact ⟨n, rfl⟩
theorem conf_list {α : Type} {g : α → List D} {ks : List Kd} {d : D} (h : Conf (.list ks) d) (hg : ∀ x, ConfL ks x → ∃ a, x = g a) : ∃ l : List α, d = .list (l.map g) ∧ l.length ≤ 9223372036854775807 := by
  obtain ⟨xs, rfl, hl, hx⟩ := h
  have key : ∀ xs : List (List D), (∀ x ∈ xs, ConfL ks x) → ∃ l : List α, xs = l.map g := by
    intro xs
    induction xs with
    | nil => intro _; exact ⟨[], rfl⟩
    | cons x xs ih =>
      intro h
      obtain ⟨a, rfl⟩ := hg x (h x (by simp))
      obtain ⟨l, rfl⟩ := ih fun y hy => h y (by simp [hy])
      exact ⟨a :: l, rfl⟩
  obtain ⟨l, rfl⟩ := key xs hx
  refine ⟨l, rfl, ?_⟩
  rw [List.length_map] at hl
  have := maxLen_le
  omega
theorem conf_u8 {d : D} (h : Conf (.int .u8) d) : ∃ n, d = U8 n ∧ 0 ≤ n ∧ n ≤ 255 := by
  obtain ⟨n, rfl, hn⟩ := h
  refine ⟨n, rfl, ?_⟩
  simp only [Lit.wf, Bool.and_eq_true, decide_eq_true_eq] at hn
  have h1 : IntKind.u8.min = 0 := by decide
  have h2 : IntKind.u8.max = 255 := by decide
  rw [h1, h2] at hn
  exact hn
theorem conf_u32 {d : D} (h : Conf (.int .u32) d) : ∃ n, d = U32 n ∧ 0 ≤ n ∧ n ≤ 4294967295 := by
  obtain ⟨n, rfl, hn⟩ := h
  refine ⟨n, rfl, ?_⟩
  simp only [Lit.wf, Bool.and_eq_true, decide_eq_true_eq] at hn
  have h1 : IntKind.u32.min = 0 := by decide
  have h2 : IntKind.u32.max = 4294967295 := by decide
  rw [h1, h2] at hn
  exact hn
theorem conf_words {d : D} (h : Conf (.list [.int .u32]) d) : ∃ ws : List Wd, d = wds ws ∧ ws.length ≤ 9223372036854775807 := conf_list h fun x hx => by
  obtain ⟨d0, t0, rfl, h0, h1⟩ := hx
  rw [show t0 = [] from h1]
  obtain ⟨n, rfl, g0, g1⟩ := conf_u32 h0
  exact ⟨⟨n, g0, g1⟩, rfl⟩
theorem conf_pk {x : List D} (h : ConfL [.int .u8, KI, KI, KI, KI, KI, KI, KI, KI, KI, KI] x) : ∃ p : Pk, x = p.d := by
  obtain ⟨d0, t0, rfl, h0, d1, t1, rfl, h1, d2, t2, rfl, h2, d3, t3, rfl, h3, d4, t4, rfl, h4, d5, t5, rfl, h5, d6, t6, rfl, h6, d7, t7, rfl, h7, d8, t8, rfl, h8, d9, t9, rfl, h9, d10, t10, rfl, h10, h11⟩ := h
  rw [show t10 = [] from h11]
  obtain ⟨a0, rfl, -⟩ := conf_u8 h0
  obtain ⟨a1, rfl⟩ := conf_int h1
  obtain ⟨a2, rfl⟩ := conf_int h2
  obtain ⟨a3, rfl⟩ := conf_int h3
  obtain ⟨a4, rfl⟩ := conf_int h4
  obtain ⟨a5, rfl⟩ := conf_int h5
  obtain ⟨a6, rfl⟩ := conf_int h6
  obtain ⟨a7, rfl⟩ := conf_int h7
  obtain ⟨a8, rfl⟩ := conf_int h8
  obtain ⟨a9, rfl⟩ := conf_int h9
  obtain ⟨a10, rfl⟩ := conf_int h10
  exact ⟨⟨a0, a1, a2, a3, a4, a5, a6, a7, a8, a9, a10⟩, rfl⟩
end Go.Q
