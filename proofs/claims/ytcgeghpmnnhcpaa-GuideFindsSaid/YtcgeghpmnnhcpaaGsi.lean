/- Guide: arguments as they are read: looks, words. -/
import Derived.Test.YtcgeghpmnnhcpaaGsh
import Derived.Test.YtcgeghpmnnhcpaaGg1
set_option linter.unusedVariables false
set_option linter.unusedSimpArgs false
namespace Go.Q
open Go.V Go.ChangeShapes Go.WideShapes Go.ChangeAt Go.RowKit
abbrev U32 (n : Int) : D := .int .u32 n
theorem conf_u8 {d : D} (h : Conf (.int .u8) d) : ∃ n, d = U8 n ∧ 0 ≤ n ∧ n ≤ 255 := by
  obtain ⟨n, rfl, hn⟩ := h
  refine ⟨n, rfl, ?_⟩
  simp only [Lit.wf, Bool.and_eq_true, decide_eq_true_eq] at hn
  have h1 : IntKind.u8.min = 0 := by decide
  have h2 : IntKind.u8.max = 255 := by decide
  rw [h1, h2] at hn
  exact hn
theorem conf_u32 {d : D} (h : Conf (.int .u32) d) : ∃ n, d = U32 n ∧ 0 ≤ n ∧ n ≤ 4294967295 := by
  obtain ⟨n, rfl, hn⟩ := h
  refine ⟨n, rfl, ?_⟩
  simp only [Lit.wf, Bool.and_eq_true, decide_eq_true_eq] at hn
  have h1 : IntKind.u32.min = 0 := by decide
  have h2 : IntKind.u32.max = 4294967295 := by decide
  rw [h1, h2] at hn
  exact hn
theorem conf_sight {x : List D} (h : ConfL [.int .u8, KI, KI, KI, KI, KI, KI, KI, KI, KI] x) : ∃ l : Lk, x = l.c := by
  obtain ⟨d0, t0, rfl, h0, d1, t1, rfl, h1, d2, t2, rfl, h2, d3, t3, rfl, h3, d4, t4, rfl, h4, d5, t5, rfl, h5, d6, t6, rfl, h6, d7, t7, rfl, h7, d8, t8, rfl, h8, d9, t9, rfl, h9, hz⟩ := h
  rw [show t9 = [] from hz]
  obtain ⟨a0, rfl, -⟩ := conf_u8 h0
  obtain ⟨a1, rfl, -⟩ := conf_int h1
  obtain ⟨a2, rfl, -⟩ := conf_int h2
  obtain ⟨a3, rfl, -⟩ := conf_int h3
  obtain ⟨a4, rfl, -⟩ := conf_int h4
  obtain ⟨a5, rfl, -⟩ := conf_int h5
  obtain ⟨a6, rfl, -⟩ := conf_int h6
  obtain ⟨a7, rfl, -⟩ := conf_int h7
  obtain ⟨a8, rfl, -⟩ := conf_int h8
  obtain ⟨a9, rfl, -⟩ := conf_int h9
  exact ⟨⟨a0, a1, a2, a3, a4, a5, a6, a7, a8, a9⟩, rfl⟩
def lks (ls : List Lk) : D := .list (ls.map Lk.c)
theorem conf_sights {d : D} (h : Conf (.list [.int .u8, KI, KI, KI, KI, KI, KI, KI, KI, KI]) d) : ∃ ls : List Lk, d = lks ls ∧ ls.length ≤ 9223372036854775807 := conf_list h fun x hx => conf_sight hx
/-- Words: numbers below 2^32. -/
structure Wd where
  n : Int
  h0 : 0 ≤ n
  h1 : n ≤ 4294967295
def wds (ws : List Wd) : D := .list (ws.map fun w => [U32 w.n])
theorem conf_words {d : D} (h : Conf (.list [.int .u32]) d) : ∃ ws : List Wd, d = wds ws ∧ ws.length ≤ 9223372036854775807 := conf_list h fun x hx => by
  obtain ⟨d0, t0, rfl, h0, h1⟩ := hx
  rw [show t0 = [] from h1]
  obtain ⟨n, rfl, g0, g1⟩ := conf_u32 h0
  exact ⟨⟨n, g0, g1⟩, rfl⟩
end Go.Q
