/- Camel: costs, and what is left after a day of rest. -/
import Derived.Test.YtecgohommehdpaaGreatXz2
set_option linter.unusedVariables false
set_option linter.unusedSimpArgs false
set_option maxRecDepth 100000
namespace Go.Q
open Go.V
theorem e54 (n lo hi : Int) : evL FN 54 [I n, I lo, I hi] = some (.bool (inR n lo hi)) := by
  refine evL_of (F := F54) rfl ?_
  by_cases h1 : lo ≤ n <;> by_cases h2 : n ≤ hi <;> simp [F54, Fn.denV, fits, T.denV, denVK, denL, E.den, D.den1, binD, outOf, inR, h1, h2]
theorem e55 (lo hi a b : Int) : evL FN 55 [.node [I lo, I hi], I a, I b] = some (.bool (inS lo hi a b)) := by
  refine evL_of (F := F55) rfl ?_
  have h := e54 lo a hi
  simp only [I] at h
  by_cases h1 : a ≤ lo <;> by_cases h2 : lo ≤ hi <;> by_cases h3 : hi ≤ b <;> simp [F55, Fn.denV, fits, T.denV, denVK, denL, E.den, D.cells, D.den1, binD, outOf, inR, inS, h, h1, h2, h3]
theorem e22 (a b : Int) : evL FN 22 [I a, I b] = some (.node [I a, I b]) := by
  refine evL_of (F := F22) rfl ?_
  simp [F22, Fn.denV, fits, T.denV, denVK, denL, E.den]
theorem e89 (a : Int) : evL FN 89 [I a] = some (.node [I a, I a]) := by
  refine evL_of (F := F89) rfl ?_
  simp [F89, Fn.denV, fits, T.denV, denVK, denL, E.den]
theorem brOK_alt (b : Br) : brOK b = (inR b.c0 1 1000000 && inR b.c1 1 1000000 && inR b.c14 0 1000 && inS b.c15 b.c16 0 1000000 && sixOK b) := by
  rw [Bool.eq_iff_iff]
  simp only [brOK, inR, Bool.and_eq_true, decide_eq_true_eq]
  constructor
  · rintro ⟨a, b, c, d, e, f, g, h⟩; exact ⟨⟨⟨⟨⟨a, b⟩, c, d⟩, f, g⟩, h⟩, e⟩
  · rintro ⟨⟨⟨⟨⟨a, b⟩, c, d⟩, f, g⟩, h⟩, e⟩; exact ⟨a, b, c, d, e, f, g, h⟩
theorem e53 (b : Br) : evL FN 53 [.node b.d] = some (.bool (brOK b)) := by
  refine evL_of (F := F53) rfl ?_
  rw [brOK_alt]
  have a0 := e54 b.c0 1 1000000
  have a1 := e54 b.c1 1 1000000
  have a2 := e54 b.c14 0 1000
  have a3 := e55 b.c15 b.c16 0 1000000
  have b1 := e55 b.c2 b.c3 0 100000
  have b2 := e55 b.c4 b.c5 0 100000
  have b3 := e55 b.c6 b.c7 0 100000
  have b4 := e55 b.c8 b.c9 0 100000
  have b5 := e55 b.c10 b.c11 0 100000
  have b6 := e55 b.c12 b.c13 0 100000
  unfold sixOK
  simp only [Br.d, I] at *
  generalize inR b.c0 1 1000000 = r0 at *
  generalize inR b.c1 1 1000000 = r1 at *
  generalize inR b.c14 0 1000 = r2 at *
  generalize inS b.c15 b.c16 0 1000000 = r3 at *
  generalize inS b.c2 b.c3 0 100000 = s1 at *
  generalize inS b.c4 b.c5 0 100000 = s2 at *
  generalize inS b.c6 b.c7 0 100000 = s3 at *
  generalize inS b.c8 b.c9 0 100000 = s4 at *
  generalize inS b.c10 b.c11 0 100000 = s5 at *
  generalize inS b.c12 b.c13 0 100000 = s6 at *
  simp [F53, Fn.denV, fits, T.denV, denL, E.den, D.cells, D.den1, unD, a0]
  cases r0
  · simp [outOf, denL, E.den, denVK, T.denV]
  simp [outOf, denL, E.den, denVK, T.denV, D.den1, unD, D.cells, a1]
  cases r1
  · simp [outOf, denL, E.den, denVK, T.denV]
  simp [outOf, denL, E.den, denVK, T.denV, D.den1, unD, D.cells, a2]
  cases r2
  · simp [outOf, denL, E.den, denVK, T.denV]
  simp [outOf, denL, E.den, denVK, T.denV, D.den1, unD, D.cells, a3]
  cases r3
  · simp [outOf, denL, E.den, denVK, T.denV]
  simp [outOf, denL, E.den, denVK, T.denV, D.den1, unD, D.cells, b1]
  cases s1
  · simp [outOf, denL, E.den, denVK, T.denV]
  simp [outOf, denL, E.den, denVK, T.denV, D.den1, unD, D.cells, b2]
  cases s2
  · simp [outOf, denL, E.den, denVK, T.denV]
  simp [outOf, denL, E.den, denVK, T.denV, D.den1, unD, D.cells, b3]
  cases s3
  · simp [outOf, denL, E.den, denVK, T.denV]
  simp [outOf, denL, E.den, denVK, T.denV, D.den1, unD, D.cells, b4]
  cases s4
  · simp [outOf, denL, E.den, denVK, T.denV]
  simp [outOf, denL, E.den, denVK, T.denV, D.den1, unD, D.cells, b5]
  cases s5
  · simp [outOf, denL, E.den, denVK, T.denV]
  simp [outOf, denL, E.den, denVK, T.denV, D.den1, unD, D.cells, b6]
theorem e14 (b : Br) : evL FN 14 [.node b.d] = some (I (if brOK b then 0 else 10)) := by
  refine evL_of (F := F14) rfl ?_
  have h := e53 b
  simp only [Br.d, I] at h ⊢
  cases hb : brOK b <;> rw [hb] at h <;> simp [F14, Fn.denV, fits, T.denV, denL, E.den, D.cells, D.den1, unD, h]
theorem e15 (h0 h1 : Int) : evL FN 15 [.node [I 0, I 0, I h0, I h1, I 0, I 0, I 0, I 0]] = some (.bool (inS h0 h1 0 60)) := by
  refine evL_of (F := F15) rfl ?_
  have a0 := e54 0 0 24
  have a1 := e54 0 0 1000000
  have a2 := e55 h0 h1 0 60
  have a3 := e55 0 0 0 1000000
  rw [show inR 0 0 24 = true from by decide] at a0
  rw [show inR 0 0 1000000 = true from by decide] at a1
  rw [show inS 0 0 0 1000000 = true from by decide] at a3
  simp only [I] at *
  generalize inS h0 h1 0 60 = s at *
  simp [F15, Fn.denV, fits, T.denV, denL, E.den, D.cells, a0, a1, a2]
  cases s <;> simp [outOf, denL, E.den, denVK, T.denV, D.cells, a3]
theorem e19 (b : Br) (c : Cm) : evL FN 19 [.node b.d, .node c.d] = some (.bool (cmOK b c)) := by
  refine evL_of (F := F19) rfl ?_
  have a0 := e55 c.x0 c.x1 0 b.c0
  have a1 := e55 c.x2 c.x3 0 b.c1
  have a2 := e55 c.x4 c.x5 0 1000
  unfold cmOK
  simp only [Br.d, Cm.d, I] at *
  generalize inS c.x0 c.x1 0 b.c0 = s1 at *
  generalize inS c.x2 c.x3 0 b.c1 = s2 at *
  generalize inS c.x4 c.x5 0 1000 = s3 at *
  simp [F19, Fn.denV, fits, T.denV, denL, E.den, D.cells, a0]
  cases s1
  · simp [outOf, denL, E.den, denVK, T.denV]
  simp [outOf, denL, E.den, denVK, T.denV, D.cells, a1]
  cases s2
  · simp [outOf, denL, E.den, denVK, T.denV]
  simp [outOf, denL, E.den, denVK, T.denV, D.cells, a2]
end Go.Q
