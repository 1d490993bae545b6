/- Ported: arguments -/
import Derived.Test.YtimbhebamjnfmaaPg0
import Derived.Test.YtimbhebamjnfmaaJL
set_option linter.unusedVariables false
set_option linter.unusedSimpArgs false
set_option maxRecDepth 100000
namespace Go.Q.G
open Go.V
abbrev KI : Kd := .int .i64
theorem maxLen_le : maxLen ≤ 9223372036854775807 := by decide
theorem i64_wf {n : Int} (h : (Lit.int .i64 n).wf = true) : -9223372036854775808 ≤ n ∧ n ≤ 9223372036854775807 := by
  simp only [Lit.wf, Bool.and_eq_true, decide_eq_true_eq] at h
  have h1 : IntKind.i64.min = -9223372036854775808 := by decide
  have h2 : IntKind.i64.max = 9223372036854775807 := by decide
  rw [h1, h2] at h
  exact h
theorem conf_int {d : D} (h : Conf KI d) : ∃ n, d = I n ∧ -9223372036854775808 ≤ n ∧ n ≤ 9223372036854775807 := by
  obtain ⟨n, rfl, hn⟩ := h
  exact ⟨n, rfl, i64_wf hn⟩
theorem conf_list {α : Type} {g : α → List D} {ks : List Kd} {d : D} (h : Conf (.list ks) d) (hg : ∀ x, ConfL ks x → ∃ a, x = g a) : ∃ l : List α, d = .list (l.map g) ∧ l.length ≤ 9223372036854775807 := by
  obtain ⟨xs, rfl, hl, hx⟩ := h
  have key : ∀ xs : List (List D), (∀ x ∈ xs, ConfL ks x) → ∃ l : List α, xs = l.map g := by
    intro xs
    induction xs with
    | nil => intro _; exact ⟨[], rfl⟩
    | cons x xs ih =>
      intro h
      obtain ⟨a, rfl⟩ := hg x (h x (by simp))
      obtain ⟨l, rfl⟩ := ih fun y hy => h y (by simp [hy])
      exact ⟨a :: l, rfl⟩
  obtain ⟨l, rfl⟩ := key xs hx
  refine ⟨l, rfl, ?_⟩
  rw [List.length_map] at hl
  have := maxLen_le
  omega
theorem conf_hf {x : List D} (h : ConfL [KI, KI, KI] x) : ∃ a : Hf, x = a.d := by
  obtain ⟨d0, t0, rfl, h0, d1, t1, rfl, h1, d2, t2, rfl, h2, h3⟩ := h
  rw [show t2 = [] from h3]
  obtain ⟨a, rfl, -⟩ := conf_int h0
  obtain ⟨b, rfl, -⟩ := conf_int h1
  obtain ⟨c, rfl, -⟩ := conf_int h2
  exact ⟨⟨a, b, c⟩, rfl⟩
theorem conf_tk {x : List D} (h : ConfL [KI, KI, KI, KI, KI, KI] x) : ∃ a : Tk, x = a.c := by
  obtain ⟨d0, t0, rfl, h0, d1, t1, rfl, h1, d2, t2, rfl, h2, d3, t3, rfl, h3, d4, t4, rfl, h4, d5, t5, rfl, h5, h6⟩ := h
  rw [show t5 = [] from h6]
  obtain ⟨a, rfl, -⟩ := conf_int h0
  obtain ⟨b, rfl, -⟩ := conf_int h1
  obtain ⟨c, rfl, -⟩ := conf_int h2
  obtain ⟨d, rfl, -⟩ := conf_int h3
  obtain ⟨e, rfl, -⟩ := conf_int h4
  obtain ⟨f, rfl, -⟩ := conf_int h5
  exact ⟨⟨a, b, c, d, e, f⟩, rfl⟩
theorem conf_area {x : List D} (h : ConfL [.list [KI, KI, KI]] x) : ∃ hs : List Hf, x = [hfs hs] ∧ hs.length ≤ 9223372036854775807 := by
  obtain ⟨d0, t0, rfl, h0, h1⟩ := h
  rw [show t0 = [] from h1]
  obtain ⟨hs, rfl, hl⟩ := conf_list h0 fun x hx => conf_hf hx
  exact ⟨hs, rfl, hl⟩
theorem conf_tks {d : D} (h : Conf (.list [KI, KI, KI, KI, KI, KI]) d) : ∃ ts : List Tk, d = tks ts ∧ ts.length ≤ 9223372036854775807 := conf_list h fun x hx => conf_tk hx
end Go.Q.G
