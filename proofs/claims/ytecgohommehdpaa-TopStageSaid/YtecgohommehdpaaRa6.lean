/- Camel: what a day costs. -/
import Derived.Test.YtecgohommehdpaaRa5
set_option linter.unusedVariables false
set_option linter.unusedSimpArgs false
set_option maxRecDepth 100000
namespace Go.Q
open Go.V
structure Mr where
  h : Int
  l : Int
  t0 : Int
  t1 : Int
  e0 : Int
  e1 : Int
  q0 : Int
  q1 : Int
def Mr.d (m : Mr) : List D := [I m.h, I m.l, I m.t0, I m.t1, I m.e0, I m.e1, I m.q0, I m.q1]
def mrOK (m : Mr) : Bool := inR m.h 0 24 && (inR m.l 0 1000000 && (inS m.t0 m.t1 0 60 && (inS m.e0 m.e1 0 1000000 && inS m.q0 m.q1 0 1000000)))
structure MrOK (m : Mr) : Prop where
  h : 0 ≤ m.h ∧ m.h ≤ 24
  l : 0 ≤ m.l ∧ m.l ≤ 1000000
  t : 0 ≤ m.t0 ∧ m.t0 ≤ m.t1 ∧ m.t1 ≤ 60
  e : 0 ≤ m.e0 ∧ m.e0 ≤ m.e1 ∧ m.e1 ≤ 1000000
  q : 0 ≤ m.q0 ∧ m.q0 ≤ m.q1 ∧ m.q1 ≤ 1000000
theorem mr_ok {m : Mr} (h : mrOK m = true) : MrOK m := by
  simp only [mrOK, inR, inS, Bool.and_eq_true, decide_eq_true_eq] at h
  obtain ⟨a, b, ⟨⟨c1, c2⟩, c3⟩, ⟨⟨d1, d2⟩, d3⟩, ⟨e1, e2⟩, e3⟩ := h
  exact ⟨a, b, ⟨c1, c2, c3⟩, ⟨d1, d2, d3⟩, ⟨e1, e2, e3⟩⟩
theorem e40 (m : Mr) : evL FN 40 [.node m.d] = some (.bool (mrOK m)) := by
  refine evL_of (F := F40) rfl ?_
  have a0 := e103 m.h 0 24
  have a1 := e103 m.l 0 1000000
  have a2 := e104 m.t0 m.t1 0 60
  have a3 := e104 m.e0 m.e1 0 1000000
  have a4 := e104 m.q0 m.q1 0 1000000
  unfold mrOK
  simp only [Mr.d, I] at *
  generalize inR m.h 0 24 = r0 at *
  generalize inR m.l 0 1000000 = r1 at *
  generalize inS m.t0 m.t1 0 60 = r2 at *
  generalize inS m.e0 m.e1 0 1000000 = r3 at *
  generalize inS m.q0 m.q1 0 1000000 = r4 at *
  simp [F40, Fn.denV, fits, T.denV, denL, E.den, D.cells, a0]
  cases r0
  · simp [outOf, denL, E.den, denVK, T.denV]
  simp [outOf, denL, E.den, denVK, T.denV, D.cells, a1]
  cases r1
  · simp [outOf, denL, E.den, denVK, T.denV]
  simp [outOf, denL, E.den, denVK, T.denV, D.cells, a2]
  cases r2
  · simp [outOf, denL, E.den, denVK, T.denV]
  simp [outOf, denL, E.den, denVK, T.denV, D.cells, a3]
  cases r3
  · simp [outOf, denL, E.den, denVK, T.denV]
  simp [outOf, denL, E.den, denVK, T.denV, D.cells, a4]
theorem e39 (b : Br) (c : Cm) : evL FN 39 [.node b.d, .node c.d] = some (I (cmE b c)) := by
  refine evL_of (F := F39) rfl ?_
  have h1 := e101 b
  have h2 := e102 b c
  unfold cmE
  simp only [Br.d, Cm.d, I] at h1 h2 ⊢
  cases hb : brOK b <;> cases hc : cmOK b c <;> rw [hb] at h1 <;> rw [hc] at h2 <;> simp [F39, Fn.denV, fits, T.denV, denL, E.den, D.cells, D.den1, unD, h1, h2]
theorem e147_2 (k a b c d : Int) (hk : 1 ≤ k ∧ k ≤ 1000000) (h : 0 ≤ a ∧ a ≤ 1000000 ∧ 0 ≤ b ∧ b ≤ 1000000 ∧ 0 ≤ c ∧ c ≤ 1000000000 ∧ 0 ≤ d ∧ d ≤ 1000000000) :
    evL FN 147 [I k, .list [[I a, I b], [I c, I d]]] = some (.node [I ((a * c).tdiv k), I ((b * d + k - 1).tdiv k)]) := by
  refine evL_of (F := F147) rfl ?_
  have h106 := e106 1
  have w1 : IntKind.i64.wrap 1 = 1 := by decide
  have w2 : IntKind.i64.wrap 2 = 2 := by decide
  have m1 : 0 ≤ a * c ∧ a * c ≤ 1000000000000000 := by
    refine ⟨Int.mul_nonneg (by omega) (by omega), ?_⟩
    have := Int.mul_le_mul (a := a) (b := c) (c := 1000000) (d := 1000000000) (by omega) (by omega) (by omega) (by omega)
    simpa using this
  have m2 : 0 ≤ b * d ∧ b * d ≤ 1000000000000000 := by
    refine ⟨Int.mul_nonneg (by omega) (by omega), ?_⟩
    have := Int.mul_le_mul (a := b) (b := d) (c := 1000000) (d := 1000000000) (by omega) (by omega) (by omega) (by omega)
    simpa using this
  have k1 : IntKind.i64.wrap a = a := wI (by omega)
  have k2 : IntKind.i64.wrap b = b := wI (by omega)
  have k3 : IntKind.i64.wrap (a * c) = a * c := wI (by omega)
  have k4 : IntKind.i64.wrap (b * d) = b * d := wI (by omega)
  have k5 : IntKind.i64.wrap (b * d + k) = b * d + k := wI (by omega)
  have k6 : IntKind.i64.wrap (b * d + k - 1) = b * d + k - 1 := wI (by omega)
  have q1 : 0 ≤ (a * c).tdiv k ∧ (a * c).tdiv k ≤ a * c := by
    rw [Int.tdiv_eq_ediv_of_nonneg m1.1]
    exact ⟨Int.ediv_nonneg m1.1 (by omega), Int.ediv_le_self _ m1.1⟩
  have q2 : 0 ≤ (b * d + k - 1).tdiv k ∧ (b * d + k - 1).tdiv k ≤ b * d + k - 1 := by
    rw [Int.tdiv_eq_ediv_of_nonneg (by omega)]
    exact ⟨Int.ediv_nonneg (by omega) (by omega), Int.ediv_le_self _ (by omega)⟩
  have k7 : IntKind.i64.wrap ((a * c).tdiv k) = (a * c).tdiv k := wI (by omega)
  have k8 : IntKind.i64.wrap ((b * d + k - 1).tdiv k) = (b * d + k - 1).tdiv k := wI (by omega)
  have hk0 : k ≠ 0 := by omega
  simp only [I] at h106 ⊢
  simp [F147, Fn.denV, fits, T.denV, denL, E.den, D.den1, D.cells, h106]
  rw [iterL_eq]
  simp [D.den1, binD, D.idx, partD, D.cells, outOf, denL, E.den, denVK, T.denV, w1, k1, k2]
  rw [iterL_eq]
  simp [D.den1, binD, D.idx, partD, D.cells, outOf, denL, E.den, denVK, T.denV, w1, w2, k1, k2, k3, k4]
  rw [iterL_eq]
  simp [D.den1, binD, D.idx, partD, D.cells, outOf, denL, E.den, denVK, T.denV, w1, w2, k1, k2, k3, k4, k5, k6, k7, k8, hk0]
def wrk (m : Mr) : Int := m.h * (100000 + m.l)
def A0 (b : Br) (m : Mr) (mk : Bool) : Int := b.c2 + b.c4 * hot m.t0 + (b.c6 * wrk m).tdiv 100000 + (if mk then b.c12 else 0)
def A1 (b : Br) (m : Mr) (mk : Bool) : Int := b.c3 + b.c5 * hot m.t1 + (b.c7 * wrk m + 100000 - 1).tdiv 100000 + (if mk then b.c13 else 0)
def A2 (b : Br) (m : Mr) : Int := (b.c8 * wrk m).tdiv 100000
def A3 (b : Br) (m : Mr) : Int := (b.c9 * wrk m + 100000 - 1).tdiv 100000
def A4 (b : Br) (m : Mr) : Int := (b.c10 * (m.h * m.l)).tdiv 1000000
def A5 (b : Br) (m : Mr) : Int := (b.c11 * (m.h * m.l) + 1000000 - 1).tdiv 1000000
theorem sc_bd {k a b x N : Int} (hk : 1 ≤ k) (ha : 0 ≤ a) (hab : a ≤ b) (hx : 0 ≤ x) (hN : b * x ≤ N * k) : 0 ≤ (a * x).tdiv k ∧ (a * x).tdiv k ≤ (b * x + k - 1).tdiv k ∧ (b * x + k - 1).tdiv k ≤ N := by
  have h1 : 0 ≤ a * x := Int.mul_nonneg ha hx
  have h2 : a * x ≤ b * x := Int.mul_le_mul_of_nonneg_right hab hx
  rw [Int.tdiv_eq_ediv_of_nonneg h1, Int.tdiv_eq_ediv_of_nonneg (by omega)]
  refine ⟨Int.ediv_nonneg h1 (by omega), Int.ediv_le_ediv (by omega) (by omega), ?_⟩
  have : (b * x + k - 1) / k < N + 1 := by
    refine Int.ediv_lt_of_lt_mul (by omega) ?_
    rw [Int.add_mul]; omega
  omega
theorem wrk_bd {m : Mr} (h : MrOK m) : 0 ≤ wrk m ∧ wrk m ≤ 26400000 ∧ 0 ≤ m.h * m.l ∧ m.h * m.l ≤ 24000000 := by
  have h1 := h.h; have h2 := h.l
  unfold wrk
  refine ⟨Int.mul_nonneg (by omega) (by omega), ?_, Int.mul_nonneg (by omega) (by omega), ?_⟩
  · have := Int.mul_le_mul (a := m.h) (b := 100000 + m.l) (c := 24) (d := 1100000) (by omega) (by omega) (by omega) (by omega)
    omega
  · have := Int.mul_le_mul (a := m.h) (b := m.l) (c := 24) (d := 1000000) (by omega) (by omega) (by omega) (by omega)
    omega
theorem mul_1e5 {a x : Int} (ha : 0 ≤ a ∧ a ≤ 100000) (hx : 0 ≤ x) : a * x ≤ 100000 * x := Int.mul_le_mul_of_nonneg_right ha.2 hx
/-- What a day costs lies between. -/
theorem A_bd {b : Br} (hb : BrOK b) {m : Mr} (hm : MrOK m) (mk : Bool) : (0 ≤ A0 b m mk ∧ A0 b m mk ≤ A1 b m mk ∧ A1 b m mk ≤ 31000000) ∧ (0 ≤ A2 b m ∧ A2 b m ≤ A3 b m ∧ A3 b m ≤ 26400000) ∧ (0 ≤ A4 b m ∧ A4 b m ≤ A5 b m ∧ A5 b m ≤ 2400000) := by
  obtain ⟨w1, w2, w3, w4⟩ := wrk_bd hm
  have ht := hm.t
  have u0 : 0 ≤ hot m.t0 ∧ hot m.t0 ≤ hot m.t1 ∧ hot m.t1 ≤ 40 := by unfold hot; omega
  have hba := hb.a; have hbb := hb.b; have hbc := hb.c; have hbd := hb.d; have hbe := hb.e; have hbf := hb.f
  have p1 : 0 ≤ b.c4 * hot m.t0 := Int.mul_nonneg (by omega) (by omega)
  have p2 : b.c4 * hot m.t0 ≤ b.c5 * hot m.t1 := Int.mul_le_mul (by omega) (by omega) (by omega) (by omega)
  have p3 : b.c5 * hot m.t1 ≤ 100000 * 40 := Int.mul_le_mul (by omega) (by omega) (by omega) (by omega)
  have s1 := sc_bd (k := 100000) (a := b.c6) (b := b.c7) (x := wrk m) (N := 26400000) (by omega) (by omega) (by omega) w1 (by have := mul_1e5 (a := b.c7) (by omega) w1; omega)
  have s2 := sc_bd (k := 100000) (a := b.c8) (b := b.c9) (x := wrk m) (N := 26400000) (by omega) (by omega) (by omega) w1 (by have := mul_1e5 (a := b.c9) (by omega) w1; omega)
  have s3 := sc_bd (k := 1000000) (a := b.c10) (b := b.c11) (x := m.h * m.l) (N := 2400000) (by omega) (by omega) (by omega) w3 (by have := mul_1e5 (a := b.c11) (by omega) w3; omega)
  unfold A0 A1 A2 A3 A4 A5
  refine ⟨?_, s2, s3⟩
  cases mk <;> simp <;> omega
end Go.Q
