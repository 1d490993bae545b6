/- Camel: what a day of rest costs, and how one is after it. -/
import Derived.Test.YtecgohommehdpaaGreatXz3
set_option linter.unusedVariables false
set_option linter.unusedSimpArgs false
set_option maxRecDepth 100000
namespace Go.Q
open Go.V
theorem e90_2 (a b c d : Int) (h : 0 ≤ a ∧ a ≤ 1000000000000 ∧ 0 ≤ b ∧ b ≤ 1000000000000 ∧ 0 ≤ c ∧ c ≤ 1000000000000 ∧ 0 ≤ d ∧ d ≤ 1000000000000) :
    evL FN 90 [.list [[I a, I b], [I c, I d]]] = some (.node [I (a + c), I (b + d)]) := by
  refine evL_of (F := F90) rfl ?_
  have w1 : IntKind.i64.wrap 1 = 1 := by decide
  have w2 : IntKind.i64.wrap 2 = 2 := by decide
  have k1 : IntKind.i64.wrap a = a := wI (by omega)
  have k2 : IntKind.i64.wrap b = b := wI (by omega)
  have k3 : IntKind.i64.wrap (a + c) = a + c := wI (by omega)
  have k4 : IntKind.i64.wrap (b + d) = b + d := wI (by omega)
  simp [F90, Fn.denV, fits, T.denV, denL, E.den, D.den1]
  rw [iterL_eq]
  simp [D.den1, binD, D.idx, partD, D.cells, outOf, denL, E.den, denVK, T.denV, w1, k1, k2]
  rw [iterL_eq]
  simp [D.den1, binD, D.idx, partD, D.cells, outOf, denL, E.den, denVK, T.denV, w1, w2, k1, k2, k3, k4]
  rw [iterL_eq]
  simp [D.den1, binD, D.idx, partD, D.cells, outOf, denL, E.den, denVK, T.denV, w1, w2, k1, k2, k3, k4]
theorem e90_3 (a b c d e f : Int) (h : 0 ≤ a ∧ a ≤ 1000000000000 ∧ 0 ≤ b ∧ b ≤ 1000000000000 ∧ 0 ≤ c ∧ c ≤ 1000000000000 ∧ 0 ≤ d ∧ d ≤ 1000000000000 ∧ 0 ≤ e ∧ e ≤ 1000000000000 ∧ 0 ≤ f ∧ f ≤ 1000000000000) :
    evL FN 90 [.list [[I a, I b], [I c, I d], [I e, I f]]] = some (.node [I (a + c + e), I (b + d + f)]) := by
  refine evL_of (F := F90) rfl ?_
  have w1 : IntKind.i64.wrap 1 = 1 := by decide
  have w2 : IntKind.i64.wrap 2 = 2 := by decide
  have w3 : IntKind.i64.wrap 3 = 3 := by decide
  have k1 : IntKind.i64.wrap a = a := wI (by omega)
  have k2 : IntKind.i64.wrap b = b := wI (by omega)
  have k3 : IntKind.i64.wrap (a + c) = a + c := wI (by omega)
  have k4 : IntKind.i64.wrap (b + d) = b + d := wI (by omega)
  have k5 : IntKind.i64.wrap (a + c + e) = a + c + e := wI (by omega)
  have k6 : IntKind.i64.wrap (b + d + f) = b + d + f := wI (by omega)
  simp [F90, Fn.denV, fits, T.denV, denL, E.den, D.den1]
  rw [iterL_eq]
  simp [D.den1, binD, D.idx, partD, D.cells, outOf, denL, E.den, denVK, T.denV, w1, k1, k2]
  rw [iterL_eq]
  simp [D.den1, binD, D.idx, partD, D.cells, outOf, denL, E.den, denVK, T.denV, w1, w2, k1, k2, k3, k4]
  rw [iterL_eq]
  simp [D.den1, binD, D.idx, partD, D.cells, outOf, denL, E.den, denVK, T.denV, w1, w2, w3, k1, k2, k3, k4, k5, k6]
  rw [iterL_eq]
  simp [D.den1, binD, D.idx, partD, D.cells, outOf, denL, E.den, denVK, T.denV, w1, w2, w3, k1, k2, k3, k4, k5, k6]
theorem e91_2 (k a b c d : Int) (hk : 1 ≤ k ∧ k ≤ 1000000) (h : 0 ≤ a ∧ a ≤ 1000000 ∧ 0 ≤ b ∧ b ≤ 1000000 ∧ 0 ≤ c ∧ c ≤ 1000 ∧ 0 ≤ d ∧ d ≤ 1000) :
    evL FN 91 [I k, .list [[I a, I b], [I c, I d]]] = some (.node [I ((a * c).tdiv k), I ((b * d + k - 1).tdiv k)]) := by
  refine evL_of (F := F91) rfl ?_
  have h89 := e89 1
  have w1 : IntKind.i64.wrap 1 = 1 := by decide
  have w2 : IntKind.i64.wrap 2 = 2 := by decide
  have m1 : 0 ≤ a * c ∧ a * c ≤ 1000000000 := by
    refine ⟨Int.mul_nonneg (by omega) (by omega), ?_⟩
    have := Int.mul_le_mul (a := a) (b := c) (c := 1000000) (d := 1000) (by omega) (by omega) (by omega) (by omega)
    simpa using this
  have m2 : 0 ≤ b * d ∧ b * d ≤ 1000000000 := by
    refine ⟨Int.mul_nonneg (by omega) (by omega), ?_⟩
    have := Int.mul_le_mul (a := b) (b := d) (c := 1000000) (d := 1000) (by omega) (by omega) (by omega) (by omega)
    simpa using this
  have k1 : IntKind.i64.wrap a = a := wI (by omega)
  have k2 : IntKind.i64.wrap b = b := wI (by omega)
  have k3 : IntKind.i64.wrap (a * c) = a * c := wI (by omega)
  have k4 : IntKind.i64.wrap (b * d) = b * d := wI (by omega)
  have k5 : IntKind.i64.wrap (b * d + k) = b * d + k := wI (by omega)
  have k6 : IntKind.i64.wrap (b * d + k - 1) = b * d + k - 1 := wI (by omega)
  have q1 : 0 ≤ (a * c).tdiv k ∧ (a * c).tdiv k ≤ a * c := by
    rw [Int.tdiv_eq_ediv_of_nonneg m1.1]
    exact ⟨Int.ediv_nonneg m1.1 (by omega), Int.ediv_le_self _ m1.1⟩
  have q2 : 0 ≤ (b * d + k - 1).tdiv k ∧ (b * d + k - 1).tdiv k ≤ b * d + k - 1 := by
    rw [Int.tdiv_eq_ediv_of_nonneg (by omega)]
    exact ⟨Int.ediv_nonneg (by omega) (by omega), Int.ediv_le_self _ (by omega)⟩
  have k7 : IntKind.i64.wrap ((a * c).tdiv k) = (a * c).tdiv k := wI (by omega)
  have k8 : IntKind.i64.wrap ((b * d + k - 1).tdiv k) = (b * d + k - 1).tdiv k := wI (by omega)
  have hk0 : k ≠ 0 := by omega
  simp only [I] at h89 ⊢
  simp [F91, Fn.denV, fits, T.denV, denL, E.den, D.den1, D.cells, h89]
  rw [iterL_eq]
  simp [D.den1, binD, D.idx, partD, D.cells, outOf, denL, E.den, denVK, T.denV, w1, k1, k2]
  rw [iterL_eq]
  simp [D.den1, binD, D.idx, partD, D.cells, outOf, denL, E.den, denVK, T.denV, w1, w2, k1, k2, k3, k4]
  rw [iterL_eq]
  simp [D.den1, binD, D.idx, partD, D.cells, outOf, denL, E.den, denVK, T.denV, w1, w2, k1, k2, k3, k4, k5, k6, k7, k8, hk0]
/-- Water that a day of rest costs, at least and at most. -/
def hot (h : Int) : Int := max 0 (h - 20)
def W0 (b : Br) (h0 : Int) (mk : Bool) : Int := b.c2 + b.c4 * hot h0 + (if mk then b.c12 else 0)
def W1 (b : Br) (h1 : Int) (mk : Bool) : Int := b.c3 + b.c5 * hot h1 + (if mk then b.c13 else 0)
structure BrOK (r : Br) : Prop where
  f0 : 1 ≤ r.c0
  f1 : r.c0 ≤ 1000000
  g0 : 1 ≤ r.c1
  g1 : r.c1 ≤ 1000000
  a : 0 ≤ r.c2 ∧ r.c2 ≤ r.c3 ∧ r.c3 ≤ 100000
  b : 0 ≤ r.c4 ∧ r.c4 ≤ r.c5 ∧ r.c5 ≤ 100000
  c : 0 ≤ r.c6 ∧ r.c6 ≤ r.c7 ∧ r.c7 ≤ 100000
  d : 0 ≤ r.c8 ∧ r.c8 ≤ r.c9 ∧ r.c9 ≤ 100000
  e : 0 ≤ r.c10 ∧ r.c10 ≤ r.c11 ∧ r.c11 ≤ 100000
  f : 0 ≤ r.c12 ∧ r.c12 ≤ r.c13 ∧ r.c13 ≤ 100000
  g : 0 ≤ r.c14 ∧ r.c14 ≤ 1000
theorem br_ok {b : Br} (h : brOK b = true) : BrOK b := by
  simp only [brOK, sixOK, inS, Bool.and_eq_true, decide_eq_true_eq] at h
  obtain ⟨a, b, c, d, ⟨⟨⟨e1, e2⟩, e3⟩, ⟨⟨f1, f2⟩, f3⟩, ⟨⟨g1, g2⟩, g3⟩, ⟨⟨h1, h2⟩, h3⟩, ⟨⟨i1, i2⟩, i3⟩, ⟨j1, j2⟩, j3⟩, k, l, m⟩ := h
  exact ⟨a, b, c, d, ⟨e1, e2, e3⟩, ⟨f1, f2, f3⟩, ⟨g1, g2, g3⟩, ⟨h1, h2, h3⟩, ⟨i1, i2, i3⟩, ⟨j1, j2, j3⟩, k, l⟩
theorem W_bd {b : Br} (hb : BrOK b) {h0 h1 : Int} (hh : 0 ≤ h0 ∧ h0 ≤ h1 ∧ h1 ≤ 60) (mk : Bool) : 0 ≤ W0 b h0 mk ∧ W0 b h0 mk ≤ W1 b h1 mk ∧ W1 b h1 mk ≤ 4200000 ∧ (0 ≤ b.c4 * hot h0 ∧ b.c4 * hot h0 ≤ 4000000) ∧ (0 ≤ b.c5 * hot h1 ∧ b.c5 * hot h1 ≤ 4000000) := by
  have u0 : 0 ≤ hot h0 ∧ hot h0 ≤ hot h1 ∧ hot h1 ≤ 40 := by unfold hot; omega
  have hbb := hb.b; have hba := hb.a; have hbf := hb.f
  have p1 : 0 ≤ b.c4 * hot h0 := Int.mul_nonneg (by omega) (by omega)
  have p2 : b.c4 * hot h0 ≤ b.c5 * hot h1 := Int.mul_le_mul (by omega) (by omega) (by omega) (by omega)
  have p3 : b.c5 * hot h1 ≤ 100000 * 40 := Int.mul_le_mul (by omega) (by omega) (by omega) (by omega)
  unfold W0 W1
  cases mk <;> simp <;> omega
theorem e62 (b : Br) (c : Cm) (hb : brOK b = true) (h0 h1 g0 g1 d0 d1 : Int) (hh : 0 ≤ h0 ∧ h0 ≤ h1 ∧ h1 ≤ 60) :
    evL FN 62 [.node (b.d ++ c.d), .node [I 0, I 0, I h0, I h1, I g0, I g1, I d0, I d1]] = some (.node [I (W0 b h0 c.x6), I (W1 b h1 c.x6), I 0, I 0, I 0, I 0]) := by
  refine evL_of (F := F62) rfl ?_
  have hB := br_ok hb
  have hba := hB.a; have hbb := hB.b; have hbc := hB.c; have hbd := hB.d; have hbe := hB.e; have hbf := hB.f
  obtain ⟨z1, z2, z3, z4, z5⟩ := W_bd hB hh c.x6
  have u0 : 0 ≤ hot h0 ∧ hot h0 ≤ 40 := by unfold hot; omega
  have u1 : 0 ≤ hot h1 ∧ hot h1 ≤ 40 := by unfold hot; omega
  have t1 : IntKind.i64.wrap (h0 - 20) = h0 - 20 := wI (by omega)
  have t2 : IntKind.i64.wrap (h1 - 20) = h1 - 20 := wI (by omega)
  have t3 : IntKind.i64.wrap 100000 = 100000 := by decide
  have t4 : IntKind.i64.wrap 0 = 0 := by decide
  have h89 := e89 0
  have s1 := e91_2 1 b.c4 b.c5 (hot h0) (hot h1) (by omega) (by omega)
  have s2 := e91_2 100000 b.c6 b.c7 0 0 (by omega) (by omega)
  have s3 := e91_2 100000 b.c8 b.c9 0 0 (by omega) (by omega)
  have s4 := e91_2 1000000 b.c10 b.c11 0 0 (by omega) (by omega)
  rw [show (b.c4 * hot h0).tdiv 1 = b.c4 * hot h0 from Int.tdiv_one _, show (b.c5 * hot h1 + 1 - 1).tdiv 1 = b.c5 * hot h1 from by rw [Int.tdiv_one]; omega] at s1
  rw [show (b.c6 * 0).tdiv 100000 = 0 from by simp, show (b.c7 * 0 + 100000 - 1).tdiv 100000 = 0 from by simp] at s2
  rw [show (b.c8 * 0).tdiv 100000 = 0 from by simp, show (b.c9 * 0 + 100000 - 1).tdiv 100000 = 0 from by simp] at s3
  rw [show (b.c10 * 0).tdiv 1000000 = 0 from by simp, show (b.c11 * 0 + 1000000 - 1).tdiv 1000000 = 0 from by simp] at s4
  have y1 := e90_3 b.c2 b.c3 (b.c4 * hot h0) (b.c5 * hot h1) 0 0 (by omega)
  have y2 := e90_2 (b.c2 + b.c4 * hot h0) (b.c3 + b.c5 * hot h1) b.c12 b.c13 (by omega)
  have m1 : (if 20 < h0 then h0 - 20 else 0) = hot h0 := by unfold hot; split <;> omega
  have m2 : (if 20 < h1 then h1 - 20 else 0) = hot h1 := by unfold hot; split <;> omega
  simp only [Int.add_zero] at y1
  unfold W0 W1
  generalize hot h0 = v0 at *
  generalize hot h1 = v1 at *
  generalize b.c4 * v0 = p0 at *
  generalize b.c5 * v1 = p1 at *
  simp only [Br.d, Cm.d, I] at *
  simp [F62, Fn.denV, fits, T.denV, denL, E.den, D.cells, D.den1, binD, mxLD, mxD, t1, t2, t3, t4, h89, m1, m2, fillD, D.flat, D.flat0, s1, s2, y1]
  cases c.x6
  · simp [outOf, denL, E.den, denVK, T.denV, D.cells, D.den1, binD, fillD, D.flat, D.flat0, s3, s4, h89, t4]
  · simp [outOf, denL, E.den, denVK, T.denV, D.cells, D.den1, binD, fillD, D.flat, D.flat0, y2, s3, s4, h89, t4]
end Go.Q
