/- Camel: small things (TopStage). -/
import Derived.Test.YtecgohommehdpaaRa4
set_option linter.unusedVariables false
set_option linter.unusedSimpArgs false
set_option maxRecDepth 100000
namespace Go.Q
open Go.V
theorem e103 (n lo hi : Int) : evL FN 103 [I n, I lo, I hi] = some (.bool (inR n lo hi)) := by
  refine evL_of (F := F103) rfl ?_
  by_cases h1 : lo ≤ n <;> by_cases h2 : n ≤ hi <;> simp [F103, Fn.denV, fits, T.denV, denVK, denL, E.den, D.den1, binD, outOf, inR, h1, h2]
theorem e104 (lo hi a b : Int) : evL FN 104 [.node [I lo, I hi], I a, I b] = some (.bool (inS lo hi a b)) := by
  refine evL_of (F := F104) rfl ?_
  have h := e103 lo a hi
  simp only [I] at h
  by_cases h1 : a ≤ lo <;> by_cases h2 : lo ≤ hi <;> by_cases h3 : hi ≤ b <;> simp [F104, Fn.denV, fits, T.denV, denVK, denL, E.den, D.cells, D.den1, binD, outOf, inR, inS, h, h1, h2, h3]
theorem e43 (a b : Int) : evL FN 43 [I a, I b] = some (.node [I a, I b]) := by
  refine evL_of (F := F43) rfl ?_
  simp [F43, Fn.denV, fits, T.denV, denVK, denL, E.den]
theorem e106 (a : Int) : evL FN 106 [I a] = some (.node [I a, I a]) := by
  refine evL_of (F := F106) rfl ?_
  simp [F106, Fn.denV, fits, T.denV, denVK, denL, E.den]
theorem brOK_alt (b : Br) : brOK b = (inR b.c0 1 1000000 && inR b.c1 1 1000000 && inR b.c14 0 1000 && inS b.c15 b.c16 0 1000000 && sixOK b) := by
  rw [Bool.eq_iff_iff]
  simp only [brOK, inR, Bool.and_eq_true, decide_eq_true_eq]
  constructor
  · rintro ⟨a, b, c, d, e, f, g, h⟩; exact ⟨⟨⟨⟨⟨a, b⟩, c, d⟩, f, g⟩, h⟩, e⟩
  · rintro ⟨⟨⟨⟨⟨a, b⟩, c, d⟩, f, g⟩, h⟩, e⟩; exact ⟨a, b, c, d, e, f, g, h⟩
theorem e101 (b : Br) : evL FN 101 [.node b.d] = some (.bool (brOK b)) := by
  refine evL_of (F := F101) rfl ?_
  rw [brOK_alt]
  have a0 := e103 b.c0 1 1000000
  have a1 := e103 b.c1 1 1000000
  have a2 := e103 b.c14 0 1000
  have a3 := e104 b.c15 b.c16 0 1000000
  have b1 := e104 b.c2 b.c3 0 100000
  have b2 := e104 b.c4 b.c5 0 100000
  have b3 := e104 b.c6 b.c7 0 100000
  have b4 := e104 b.c8 b.c9 0 100000
  have b5 := e104 b.c10 b.c11 0 100000
  have b6 := e104 b.c12 b.c13 0 100000
  unfold sixOK
  simp only [Br.d, I] at *
  generalize inR b.c0 1 1000000 = r0 at *
  generalize inR b.c1 1 1000000 = r1 at *
  generalize inR b.c14 0 1000 = r2 at *
  generalize inS b.c15 b.c16 0 1000000 = r3 at *
  generalize inS b.c2 b.c3 0 100000 = s1 at *
  generalize inS b.c4 b.c5 0 100000 = s2 at *
  generalize inS b.c6 b.c7 0 100000 = s3 at *
  generalize inS b.c8 b.c9 0 100000 = s4 at *
  generalize inS b.c10 b.c11 0 100000 = s5 at *
  generalize inS b.c12 b.c13 0 100000 = s6 at *
  simp [F101, Fn.denV, fits, T.denV, denL, E.den, D.cells, D.den1, unD, a0]
  cases r0
  · simp [outOf, denL, E.den, denVK, T.denV]
  simp [outOf, denL, E.den, denVK, T.denV, D.den1, unD, D.cells, a1]
  cases r1
  · simp [outOf, denL, E.den, denVK, T.denV]
  simp [outOf, denL, E.den, denVK, T.denV, D.den1, unD, D.cells, a2]
  cases r2
  · simp [outOf, denL, E.den, denVK, T.denV]
  simp [outOf, denL, E.den, denVK, T.denV, D.den1, unD, D.cells, a3]
  cases r3
  · simp [outOf, denL, E.den, denVK, T.denV]
  simp [outOf, denL, E.den, denVK, T.denV, D.den1, unD, D.cells, b1]
  cases s1
  · simp [outOf, denL, E.den, denVK, T.denV]
  simp [outOf, denL, E.den, denVK, T.denV, D.den1, unD, D.cells, b2]
  cases s2
  · simp [outOf, denL, E.den, denVK, T.denV]
  simp [outOf, denL, E.den, denVK, T.denV, D.den1, unD, D.cells, b3]
  cases s3
  · simp [outOf, denL, E.den, denVK, T.denV]
  simp [outOf, denL, E.den, denVK, T.denV, D.den1, unD, D.cells, b4]
  cases s4
  · simp [outOf, denL, E.den, denVK, T.denV]
  simp [outOf, denL, E.den, denVK, T.denV, D.den1, unD, D.cells, b5]
  cases s5
  · simp [outOf, denL, E.den, denVK, T.denV]
  simp [outOf, denL, E.den, denVK, T.denV, D.den1, unD, D.cells, b6]
theorem e102 (b : Br) (c : Cm) : evL FN 102 [.node b.d, .node c.d] = some (.bool (cmOK b c)) := by
  refine evL_of (F := F102) rfl ?_
  have a0 := e104 c.x0 c.x1 0 b.c0
  have a1 := e104 c.x2 c.x3 0 b.c1
  have a2 := e104 c.x4 c.x5 0 1000
  unfold cmOK
  simp only [Br.d, Cm.d, I] at *
  generalize inS c.x0 c.x1 0 b.c0 = s1 at *
  generalize inS c.x2 c.x3 0 b.c1 = s2 at *
  generalize inS c.x4 c.x5 0 1000 = s3 at *
  simp [F102, Fn.denV, fits, T.denV, denL, E.den, D.cells, a0]
  cases s1
  · simp [outOf, denL, E.den, denVK, T.denV]
  simp [outOf, denL, E.den, denVK, T.denV, D.cells, a1]
  cases s2
  · simp [outOf, denL, E.den, denVK, T.denV]
  simp [outOf, denL, E.den, denVK, T.denV, D.cells, a2]
theorem e142_2 (a b c d : Int) (h : 0 ≤ a ∧ a ≤ 1000000000000 ∧ 0 ≤ b ∧ b ≤ 1000000000000 ∧ 0 ≤ c ∧ c ≤ 1000000000000 ∧ 0 ≤ d ∧ d ≤ 1000000000000) :
    evL FN 142 [.list [[I a, I b], [I c, I d]]] = some (.node [I (a + c), I (b + d)]) := by
  refine evL_of (F := F142) rfl ?_
  have w1 : IntKind.i64.wrap 1 = 1 := by decide
  have w2 : IntKind.i64.wrap 2 = 2 := by decide
  have k1 : IntKind.i64.wrap a = a := wI (by omega)
  have k2 : IntKind.i64.wrap b = b := wI (by omega)
  have k3 : IntKind.i64.wrap (a + c) = a + c := wI (by omega)
  have k4 : IntKind.i64.wrap (b + d) = b + d := wI (by omega)
  simp [F142, Fn.denV, fits, T.denV, denL, E.den, D.den1]
  rw [iterL_eq]
  simp [D.den1, binD, D.idx, partD, D.cells, outOf, denL, E.den, denVK, T.denV, w1, k1, k2]
  rw [iterL_eq]
  simp [D.den1, binD, D.idx, partD, D.cells, outOf, denL, E.den, denVK, T.denV, w1, w2, k1, k2, k3, k4]
  rw [iterL_eq]
  simp [D.den1, binD, D.idx, partD, D.cells, outOf, denL, E.den, denVK, T.denV, w1, w2, k1, k2, k3, k4]
theorem e142_3 (a b c d e f : Int) (h : 0 ≤ a ∧ a ≤ 1000000000000 ∧ 0 ≤ b ∧ b ≤ 1000000000000 ∧ 0 ≤ c ∧ c ≤ 1000000000000 ∧ 0 ≤ d ∧ d ≤ 1000000000000 ∧ 0 ≤ e ∧ e ≤ 1000000000000 ∧ 0 ≤ f ∧ f ≤ 1000000000000) :
    evL FN 142 [.list [[I a, I b], [I c, I d], [I e, I f]]] = some (.node [I (a + c + e), I (b + d + f)]) := by
  refine evL_of (F := F142) rfl ?_
  have w1 : IntKind.i64.wrap 1 = 1 := by decide
  have w2 : IntKind.i64.wrap 2 = 2 := by decide
  have w3 : IntKind.i64.wrap 3 = 3 := by decide
  have k1 : IntKind.i64.wrap a = a := wI (by omega)
  have k2 : IntKind.i64.wrap b = b := wI (by omega)
  have k3 : IntKind.i64.wrap (a + c) = a + c := wI (by omega)
  have k4 : IntKind.i64.wrap (b + d) = b + d := wI (by omega)
  have k5 : IntKind.i64.wrap (a + c + e) = a + c + e := wI (by omega)
  have k6 : IntKind.i64.wrap (b + d + f) = b + d + f := wI (by omega)
  simp [F142, Fn.denV, fits, T.denV, denL, E.den, D.den1]
  rw [iterL_eq]
  simp [D.den1, binD, D.idx, partD, D.cells, outOf, denL, E.den, denVK, T.denV, w1, k1, k2]
  rw [iterL_eq]
  simp [D.den1, binD, D.idx, partD, D.cells, outOf, denL, E.den, denVK, T.denV, w1, w2, k1, k2, k3, k4]
  rw [iterL_eq]
  simp [D.den1, binD, D.idx, partD, D.cells, outOf, denL, E.den, denVK, T.denV, w1, w2, w3, k1, k2, k3, k4, k5, k6]
  rw [iterL_eq]
  simp [D.den1, binD, D.idx, partD, D.cells, outOf, denL, E.den, denVK, T.denV, w1, w2, w3, k1, k2, k3, k4, k5, k6]
/-- Water that a day of rest costs, at least and at most. -/
def hot (h : Int) : Int := max 0 (h - 20)
structure BrOK (r : Br) : Prop where
  f0 : 1 ≤ r.c0
  f1 : r.c0 ≤ 1000000
  g0 : 1 ≤ r.c1
  g1 : r.c1 ≤ 1000000
  a : 0 ≤ r.c2 ∧ r.c2 ≤ r.c3 ∧ r.c3 ≤ 100000
  b : 0 ≤ r.c4 ∧ r.c4 ≤ r.c5 ∧ r.c5 ≤ 100000
  c : 0 ≤ r.c6 ∧ r.c6 ≤ r.c7 ∧ r.c7 ≤ 100000
  d : 0 ≤ r.c8 ∧ r.c8 ≤ r.c9 ∧ r.c9 ≤ 100000
  e : 0 ≤ r.c10 ∧ r.c10 ≤ r.c11 ∧ r.c11 ≤ 100000
  f : 0 ≤ r.c12 ∧ r.c12 ≤ r.c13 ∧ r.c13 ≤ 100000
  g : 0 ≤ r.c14 ∧ r.c14 ≤ 1000
theorem br_ok {b : Br} (h : brOK b = true) : BrOK b := by
  simp only [brOK, sixOK, inS, Bool.and_eq_true, decide_eq_true_eq] at h
  obtain ⟨a, b, c, d, ⟨⟨⟨e1, e2⟩, e3⟩, ⟨⟨f1, f2⟩, f3⟩, ⟨⟨g1, g2⟩, g3⟩, ⟨⟨h1, h2⟩, h3⟩, ⟨⟨i1, i2⟩, i3⟩, ⟨j1, j2⟩, j3⟩, k, l, m⟩ := h
  exact ⟨a, b, c, d, ⟨e1, e2, e3⟩, ⟨f1, f2, f3⟩, ⟨g1, g2, g3⟩, ⟨h1, h2, h3⟩, ⟨i1, i2, i3⟩, ⟨j1, j2, j3⟩, k, l⟩
theorem e140 (a b m : Int) : evL FN 140 [.node [I a, I b], I m] = some (.node [I (min (max a 0) m), I (min (max b 0) m)]) := by
  refine evL_of (F := F140) rfl ?_
  have m1 : ∀ x : Int, (if x < 0 then 0 else x) = max x 0 := fun x => by split <;> omega
  have m2 : ∀ x y : Int, (if y < x then y else x) = min x y := fun x y => by split <;> omega
  simp [F140, Fn.denV, fits, T.denV, denL, E.den, D.cells, D.den1, mxLD, mxD, m1, m2]
theorem e141 (a b c d : Int) (h1 : -9000000000000000000 ≤ a - d ∧ a - d ≤ 9000000000000000000) (h2 : -9000000000000000000 ≤ b - c ∧ b - c ≤ 9000000000000000000) : evL FN 141 [.node [I a, I b], .node [I c, I d]] = some (.node [I (a - d), I (b - c)]) := by
  refine evL_of (F := F141) rfl ?_
  have k1 : IntKind.i64.wrap (a - d) = a - d := wI (by omega)
  have k2 : IntKind.i64.wrap (b - c) = b - c := wI (by omega)
  simp [F141, Fn.denV, fits, T.denV, denL, E.den, D.cells, D.den1, binD, k1, k2]
theorem e139 (a b c d e f m : Int) (h : 0 ≤ a ∧ a ≤ 100000000 ∧ 0 ≤ b ∧ b ≤ 100000000 ∧ 0 ≤ c ∧ c ≤ 100000000 ∧ 0 ≤ d ∧ d ≤ 100000000 ∧ 0 ≤ e ∧ e ≤ 100000000 ∧ 0 ≤ f ∧ f ≤ 100000000 ∧ 0 ≤ m ∧ m ≤ 100000000) :
    evL FN 139 [.node [I a, I b], .node [I c, I d], .node [I e, I f], I m] = some (.node [I (min (max (min (max (a - d) 0) m + e) 0) m), I (min (max (min (max (b - c) 0) m + f) 0) m)]) := by
  refine evL_of (F := F139) rfl ?_
  have h1 := e141 a b c d (by omega) (by omega)
  have h2 := e140 (a - d) (b - c) m
  have h3 := e142_2 (min (max (a - d) 0) m) (min (max (b - c) 0) m) e f (by omega)
  have h4 := e140 (min (max (a - d) 0) m + e) (min (max (b - c) 0) m + f) m
  generalize min (max (a - d) 0) m = x at *
  generalize min (max (b - c) 0) m = y at *
  simp only [I] at *
  simp [F139, Fn.denV, fits, T.denV, denL, E.den, D.cells, D.den1, h1, h2, h3, h4, fillD, D.flat, D.flat0]
structure CmOK (b : Br) (c : Cm) : Prop where
  a : 0 ≤ c.x0 ∧ c.x0 ≤ c.x1 ∧ c.x1 ≤ b.c0
  b : 0 ≤ c.x2 ∧ c.x2 ≤ c.x3 ∧ c.x3 ≤ b.c1
  c : 0 ≤ c.x4 ∧ c.x4 ≤ c.x5 ∧ c.x5 ≤ 1000
theorem cm_ok {b : Br} {c : Cm} (h : cmOK b c = true) : CmOK b c := by
  simp only [cmOK, inS, Bool.and_eq_true, decide_eq_true_eq] at h
  obtain ⟨⟨⟨e1, e2⟩, e3⟩, ⟨⟨f1, f2⟩, f3⟩, ⟨g1, g2⟩, g3⟩ := h
  exact ⟨⟨e1, e2, e3⟩, ⟨f1, f2, f3⟩, ⟨g1, g2, g3⟩⟩
theorem e107 (b : Br) (c : Cm) : evL FN 107 [.node b.d, .node c.d] = some (.node (b.d ++ c.d)) := by
  refine evL_of (F := F107) rfl ?_
  simp [F107, Fn.denV, fits, T.denV, denL, E.den, D.cells, Br.d, Cm.d]
theorem e110 (b : Br) (c : Cm) : evL FN 110 [.node (b.d ++ c.d)] = some (.node c.d) := by
  refine evL_of (F := F110) rfl ?_
  simp [F110, Fn.denV, fits, T.denV, denL, E.den, D.cells, Br.d, Cm.d]
end Go.Q
