/- Ported: arguments -/
import Derived.Test.YtimbhebamjnfmaaMa0
import Derived.Test.YtimbhebamjnfmaaJL
set_option linter.unusedVariables false
set_option linter.unusedSimpArgs false
set_option maxRecDepth 100000
namespace Go.Q
open Go.V
abbrev U8 (n : Int) : D := .int .u8 n
abbrev U32 (n : Int) : D := .int .u32 n
abbrev KI : Kd := .int .i64
theorem maxLen_le : maxLen ≤ 9223372036854775807 := by decide
theorem i64_wf {n : Int} (h : (Lit.int .i64 n).wf = true) : -9223372036854775808 ≤ n ∧ n ≤ 9223372036854775807 := by
  simp only [Lit.wf, Bool.and_eq_true, decide_eq_true_eq] at h
  have h1 : IntKind.i64.min = -9223372036854775808 := by decide
  have h2 : IntKind.i64.max = 9223372036854775807 := by decide
  rw [h1, h2] at h
  exact h
theorem conf_int {d : D} (h : Conf KI d) : ∃ n, d = I n ∧ -9223372036854775808 ≤ n ∧ n ≤ 9223372036854775807 := by
  obtain ⟨n, rfl, hn⟩ := h
  exact ⟨n, rfl, i64_wf hn⟩
theorem conf_list {α : Type} {g : α → List D} {ks : List Kd} {d : D} (h : Conf (.list ks) d) (hg : ∀ x, ConfL ks x → ∃ a, x = g a) : ∃ l : List α, d = .list (l.map g) ∧ l.length ≤ 9223372036854775807 := by
  obtain ⟨xs, rfl, hl, hx⟩ := h
  have key : ∀ xs : List (List D), (∀ x ∈ xs, ConfL ks x) → ∃ l : List α, xs = l.map g := by
    intro xs
    induction xs with
    | nil => intro _; exact ⟨[], rfl⟩
    | cons x xs ih =>
      intro h
      obtain ⟨a, rfl⟩ := hg x (h x (by simp))
      obtain ⟨l, rfl⟩ := ih fun y hy => h y (by simp [hy])
      exact ⟨a :: l, rfl⟩
  obtain ⟨l, rfl⟩ := key xs hx
  refine ⟨l, rfl, ?_⟩
  rw [List.length_map] at hl
  have := maxLen_le
  omega
theorem conf_span {x : List D} (h : ConfL [KI, KI] x) : ∃ a b : Int, x = [I a, I b] ∧ (-9223372036854775808 ≤ a ∧ a ≤ 9223372036854775807) ∧ (-9223372036854775808 ≤ b ∧ b ≤ 9223372036854775807) := by
  obtain ⟨d0, t0, rfl, h0, d1, t1, rfl, h1, h2⟩ := h
  rw [show t1 = [] from h2]
  obtain ⟨a, rfl, ha⟩ := conf_int h0
  obtain ⟨b, rfl, hb⟩ := conf_int h1
  exact ⟨a, b, rfl, ha, hb⟩
theorem conf_u32 {d : D} (h : Conf (.int .u32) d) : ∃ n, d = U32 n ∧ 0 ≤ n ∧ n ≤ 4294967295 := by
  obtain ⟨n, rfl, hn⟩ := h
  refine ⟨n, rfl, ?_⟩
  simp only [Lit.wf, Bool.and_eq_true, decide_eq_true_eq] at hn
  have h1 : IntKind.u32.min = 0 := by decide
  have h2 : IntKind.u32.max = 4294967295 := by decide
  rw [h1, h2] at hn
  exact hn
abbrev KG : Kd := .list [KI, KI, KI, KI]
theorem conf_gt {x : List D} (h : ConfL [KI, KI, KI, KI] x) : ∃ g : Gt, x = g.d := by
  obtain ⟨d0, t0, rfl, h0, d1, t1, rfl, h1, d2, t2, rfl, h2, d3, t3, rfl, h3, h4⟩ := h
  rw [show t3 = [] from h4]
  obtain ⟨a, rfl, -⟩ := conf_int h0
  obtain ⟨b, rfl, -⟩ := conf_int h1
  obtain ⟨c, rfl, -⟩ := conf_int h2
  obtain ⟨d, rfl, -⟩ := conf_int h3
  exact ⟨⟨a, b, c, d⟩, rfl⟩
theorem conf_lg {x : List D} (h : ConfL [KI, KI, KI, KI, KG] x) : ∃ l : Lg, x = l.d ∧ l.gs.length ≤ 9223372036854775807 := by
  obtain ⟨d0, t0, rfl, h0, d1, t1, rfl, h1, d2, t2, rfl, h2, d3, t3, rfl, h3, d4, t4, rfl, h4, h5⟩ := h
  rw [show t4 = [] from h5]
  obtain ⟨a, rfl, -⟩ := conf_int h0
  obtain ⟨b, rfl, -⟩ := conf_int h1
  obtain ⟨c, rfl, -⟩ := conf_int h2
  obtain ⟨d, rfl, -⟩ := conf_int h3
  obtain ⟨gs, rfl, hl⟩ := conf_list h4 fun x hx => conf_gt hx
  exact ⟨⟨a, b, c, d, gs⟩, rfl, hl⟩
theorem conf_wl {x : List D} (h : ConfL [KI, KI, KI, KI, KI, KI, KI, KI, KI] x) : ∃ w : Wl, x = w.d := by
  obtain ⟨d0, t0, rfl, h0, d1, t1, rfl, h1, d2, t2, rfl, h2, d3, t3, rfl, h3, d4, t4, rfl, h4, d5, t5, rfl, h5, d6, t6, rfl, h6, d7, t7, rfl, h7, d8, t8, rfl, h8, h9⟩ := h
  rw [show t8 = [] from h9]
  obtain ⟨a0, rfl, -⟩ := conf_int h0
  obtain ⟨a1, rfl, -⟩ := conf_int h1
  obtain ⟨a2, rfl, -⟩ := conf_int h2
  obtain ⟨a3, rfl, -⟩ := conf_int h3
  obtain ⟨a4, rfl, -⟩ := conf_int h4
  obtain ⟨a5, rfl, -⟩ := conf_int h5
  obtain ⟨a6, rfl, -⟩ := conf_int h6
  obtain ⟨a7, rfl, -⟩ := conf_int h7
  obtain ⟨a8, rfl, -⟩ := conf_int h8
  exact ⟨⟨a0, a1, a2, a3, a4, a5, a6, a7, a8⟩, rfl⟩
theorem conf_lgs {xs : List (List D)} (h : ∀ x ∈ xs, ConfL [KI, KI, KI, KI, KG] x) : ∃ ls : List Lg, xs = ls.map Lg.d ∧ ∀ l ∈ ls, l.gs.length ≤ 9223372036854775807 := by
  induction xs with
  | nil => exact ⟨[], rfl, by simp⟩
  | cons x xs ih =>
    obtain ⟨l, rfl, hl⟩ := conf_lg (h x (by simp))
    obtain ⟨ls, rfl, hls⟩ := ih fun y hy => h y (by simp [hy])
    exact ⟨l :: ls, rfl, fun y hy => by
      rcases List.mem_cons.1 hy with rfl | hy
      · exact hl
      · exact hls y hy⟩
theorem conf_land {x : List D} (h : ConfL [.list [KI, KI, KI, KI, KI, KI, KI, KI, KI], .list [KI, KI, KI, KI, KG]] x) : ∃ (ws : List Wl) (ls : List Lg), x = [wls ws, lgs ls] ∧ ws.length ≤ 9223372036854775807 ∧ ls.length ≤ 9223372036854775807 ∧ ∀ l ∈ ls, l.gs.length ≤ 9223372036854775807 := by
  obtain ⟨d0, t0, rfl, h0, d1, t1, rfl, h1, h2⟩ := h
  rw [show t1 = [] from h2]
  obtain ⟨ws, rfl, hw⟩ := conf_list h0 fun x hx => conf_wl hx
  obtain ⟨xs, rfl, hl, hx⟩ := h1
  obtain ⟨ls, rfl, hb⟩ := conf_lgs hx
  rw [List.length_map] at hl
  have := maxLen_le
  exact ⟨ws, ls, rfl, hw, by omega, hb⟩
theorem conf_ints {d : D} (h : Conf (.list [KI]) d) : ∃ ns : List Int, d = .list (ns.map fun n => [I n]) ∧ ns.length ≤ 9223372036854775807 := conf_list h fun x hx => by
  obtain ⟨d0, t0, rfl, h0, h1⟩ := hx
  rw [show t0 = [] from h1]
  obtain ⟨a, rfl, -⟩ := conf_int h0
  exact ⟨a, rfl⟩
end Go.Q
