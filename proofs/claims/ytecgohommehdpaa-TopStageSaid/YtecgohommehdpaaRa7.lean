/- Camel: Cost of any day. -/
import Derived.Test.YtecgohommehdpaaRa6
set_option linter.unusedVariables false
set_option linter.unusedSimpArgs false
set_option maxRecDepth 100000
namespace Go.Q
open Go.V
theorem e138 (b : Br) (c : Cm) (hb : brOK b = true) (m : Mr) (hm : mrOK m = true) :
    evL FN 138 [.node (b.d ++ c.d), .node m.d] = some (.node [I (A0 b m c.x6), I (A1 b m c.x6), I (A2 b m), I (A3 b m), I (A4 b m), I (A5 b m)]) := by
  refine evL_of (F := F138) rfl ?_
  have hB := br_ok hb
  have hM := mr_ok hm
  have hba := hB.a; have hbb := hB.b; have hbc := hB.c; have hbd := hB.d; have hbe := hB.e; have hbf := hB.f
  have hh := hM.h; have hl := hM.l; have ht := hM.t
  obtain ⟨w1, w2, w3, w4⟩ := wrk_bd hM
  have u0 : 0 ≤ hot m.t0 ∧ hot m.t0 ≤ 40 := by unfold hot; omega
  have u1 : 0 ≤ hot m.t1 ∧ hot m.t1 ≤ 40 := by unfold hot; omega
  have t1 : IntKind.i64.wrap (m.t0 - 20) = m.t0 - 20 := wI (by omega)
  have t2 : IntKind.i64.wrap (m.t1 - 20) = m.t1 - 20 := wI (by omega)
  have t3 : IntKind.i64.wrap (100000 + m.l) = 100000 + m.l := wI (by omega)
  have t4 : IntKind.i64.wrap (wrk m) = wrk m := wI (by omega)
  have t5 : IntKind.i64.wrap (m.h * m.l) = m.h * m.l := wI (by omega)
  have h106 := e106 (wrk m)
  have h106' := e106 (m.h * m.l)
  have s1 := e147_2 1 b.c4 b.c5 (hot m.t0) (hot m.t1) (by omega) (by omega)
  have s2 := e147_2 100000 b.c6 b.c7 (wrk m) (wrk m) (by omega) (by omega)
  have s3 := e147_2 100000 b.c8 b.c9 (wrk m) (wrk m) (by omega) (by omega)
  have s4 := e147_2 1000000 b.c10 b.c11 (m.h * m.l) (m.h * m.l) (by omega) (by omega)
  rw [show (b.c4 * hot m.t0).tdiv 1 = b.c4 * hot m.t0 from Int.tdiv_one _, show (b.c5 * hot m.t1 + 1 - 1).tdiv 1 = b.c5 * hot m.t1 from by rw [Int.tdiv_one]; omega] at s1
  have p1 : 0 ≤ b.c4 * hot m.t0 := Int.mul_nonneg (by omega) (by omega)
  have p2 : b.c4 * hot m.t0 ≤ 100000 * 40 := Int.mul_le_mul (by omega) (by omega) (by omega) (by omega)
  have p3 : 0 ≤ b.c5 * hot m.t1 := Int.mul_nonneg (by omega) (by omega)
  have p4 : b.c5 * hot m.t1 ≤ 100000 * 40 := Int.mul_le_mul (by omega) (by omega) (by omega) (by omega)
  have sb1 := sc_bd (k := 100000) (a := b.c6) (b := b.c7) (x := wrk m) (N := 26400000) (by omega) (by omega) (by omega) w1 (by have := mul_1e5 (a := b.c7) (by omega) w1; omega)
  have y1 := e142_3 b.c2 b.c3 (b.c4 * hot m.t0) (b.c5 * hot m.t1) ((b.c6 * wrk m).tdiv 100000) ((b.c7 * wrk m + 100000 - 1).tdiv 100000) (by omega)
  have y2 := e142_2 (b.c2 + b.c4 * hot m.t0 + (b.c6 * wrk m).tdiv 100000) (b.c3 + b.c5 * hot m.t1 + (b.c7 * wrk m + 100000 - 1).tdiv 100000) b.c12 b.c13 (by omega)
  have m1 : (if 20 < m.t0 then m.t0 - 20 else 0) = hot m.t0 := by unfold hot; split <;> omega
  have m2 : (if 20 < m.t1 then m.t1 - 20 else 0) = hot m.t1 := by unfold hot; split <;> omega
  have ew : m.h * (100000 + m.l) = wrk m := rfl
  unfold A0 A1 A2 A3 A4 A5
  generalize hot m.t0 = v0 at *
  generalize hot m.t1 = v1 at *
  generalize wrk m = w at *
  generalize b.c4 * v0 = p0 at *
  generalize b.c5 * v1 = p1 at *
  generalize (b.c6 * w).tdiv 100000 = z2 at *
  generalize (b.c7 * w + 100000 - 1).tdiv 100000 = z3 at *
  generalize (b.c8 * w).tdiv 100000 = z4 at *
  generalize (b.c9 * w + 100000 - 1).tdiv 100000 = z5 at *
  generalize (b.c10 * (m.h * m.l)).tdiv 1000000 = z6 at *
  generalize (b.c11 * (m.h * m.l) + 1000000 - 1).tdiv 1000000 = z7 at *
  simp only [Br.d, Cm.d, Mr.d, I] at *
  simp [F138, Fn.denV, fits, T.denV, denL, E.den, D.cells, D.den1, binD, mxLD, mxD, t1, t2, t3, ew, t4, h106, m1, m2, fillD, D.flat, D.flat0, s1, s2, y1]
  cases c.x6
  · simp [outOf, denL, E.den, denVK, T.denV, D.cells, D.den1, binD, fillD, D.flat, D.flat0, s3, s4, h106', t5]
  · simp [outOf, denL, E.den, denVK, T.denV, D.cells, D.den1, binD, fillD, D.flat, D.flat0, y2, s3, s4, h106', t5]
end Go.Q
