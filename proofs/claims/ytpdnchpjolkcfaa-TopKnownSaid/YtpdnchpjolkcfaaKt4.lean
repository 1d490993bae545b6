/- Wells are landmarks: a round. -/
import Derived.Test.YtpdnchpjolkcfaaKt3
set_option linter.unusedVariables false
set_option linter.unusedSimpArgs false
set_option maxRecDepth 100000
namespace Go.Q
open Go.V
theorem rem_two (n : Int) (h : 0 ≤ n) : 0 ≤ n.tmod 2 ∧ n.tmod 2 ≤ 1 := by
  rw [Int.tmod_eq_emod_of_nonneg h]; omega
theorem t4_ok (hs : List Hf) (us : List Wd) (i : Nat) (hi : i < 9223372036854775807) (w o : Wl) (hA : Ar hs w.x w.y) (hX : -10000000 ≤ w.x ∧ w.x ≤ 10000000) (hY : -10000000 ≤ w.y ∧ w.y ≤ 10000000) (hox : -10000000 ≤ o.x ∧ o.x ≤ 10000000) (hoy : -10000000 ≤ o.y ∧ o.y ≤ 10000000)
    (hdx : -400 ≤ o.x - w.x ∧ o.x - w.x ≤ 400) (hdy : -400 ≤ o.y - w.y ∧ o.y - w.y ≤ 400)
    (x0 x1 x2 x4 x5 x6 x7 x8 x9 x10 x12 x13 x14 x15 x16 x17 x18 x19 x20 x21 x22 x23 x24 x27 x28 x29 x30 x31 x32 x33 x37 : D) :
    ∃ j ρ, T.denV (evL FN) [x0, x1, x2, wds us, x4, x5, x6, x7, x8, x9, x10, .node w.d, x12, x13, x14, x15, x16, x17, x18, x19, x20, x21, x22, x23, x24, I i, hfs hs, x27, x28, x29, x30, x31, x32, x33, .node o.d, I (o.x - w.x), I (o.y - w.y), x37] t4 = some (j, ρ) ∧
      (j = 1 ∧ E.den ρ (.v 26) = hfs hs ∨ j = 2 ∨ j = 4 ∧ ∃ hs', E.den ρ (.cell (.cell (.v 59) 0) 0) = hfs hs' ∧ Ar hs' w.x w.y) := by
  have h23 := e23 us i
  have hu := atS us i
  have hr := rem_two (atS us i).n (atS us i).h0
  obtain ⟨dx, ex⟩ : ∃ dx, dx = o.x - w.x := ⟨_, rfl⟩
  obtain ⟨dy, ey⟩ : ∃ dy, dy = o.y - w.y := ⟨_, rfl⟩
  rw [← ex, ← ey]
  rw [← ex] at hdx
  rw [← ey] at hdy
  obtain ⟨T0, eT⟩ : ∃ T0, T0 = 1 + (atS us i).n.tmod 2 := ⟨_, rfl⟩
  have hT : T0 = 1 ∨ T0 = 2 := by omega
  have p1 : -800 ≤ dy * T0 ∧ dy * T0 ≤ 800 := by rcases hT with h | h <;> rw [h] <;> omega
  have p2 : -800 ≤ dx * T0 ∧ dx * T0 ≤ 800 := by rcases hT with h | h <;> rw [h] <;> omega
  have q1 := td_bd p1
  have q2 := td_bd p2
  have w0 : IntKind.i64.wrap ((atS us i).n.tmod 2) = (atS us i).n.tmod 2 := wrapI (by omega)
  have w1 : IntKind.i64.wrap (1 + (atS us i).n.tmod 2) = T0 := by rw [← eT]; exact wrapI (by omega)
  have w2 : IntKind.i64.wrap (2 * dx) = 2 * dx := wrapI (by omega)
  have w3 : IntKind.i64.wrap (2 * dy) = 2 * dy := wrapI (by omega)
  have w4 : IntKind.i64.wrap (dy * T0) = dy * T0 := wrapI (by omega)
  have w5 : IntKind.i64.wrap (dx * T0) = dx * T0 := wrapI (by omega)
  have w6 : IntKind.i64.wrap ((dy * T0).tdiv 2) = (dy * T0).tdiv 2 := wrapI (by omega)
  have w7 : IntKind.i64.wrap ((dx * T0).tdiv 2) = (dx * T0).tdiv 2 := wrapI (by omega)
  have w8 : IntKind.i64.wrap (2 * dx + (dy * T0).tdiv 2) = 2 * dx + (dy * T0).tdiv 2 := wrapI (by omega)
  have w9 : IntKind.i64.wrap (2 * dy - (dx * T0).tdiv 2) = 2 * dy - (dx * T0).tdiv 2 := wrapI (by omega)
  have w10 : IntKind.i64.wrap (2 * dx - (dy * T0).tdiv 2) = 2 * dx - (dy * T0).tdiv 2 := wrapI (by omega)
  have w11 : IntKind.i64.wrap (2 * dy + (dx * T0).tdiv 2) = 2 * dy + (dx * T0).tdiv 2 := wrapI (by omega)
  have hc := fun P hP x37 x38 x39 x40 x41 x42 x43 x44 x46 x47 x48 x50 x51 x52 x54 x55 x56 => c4_ok dx dy (2 * dx + (dy * T0).tdiv 2) (2 * dy - (dx * T0).tdiv 2) (2 * dx - (dy * T0).tdiv 2) (2 * dy + (dx * T0).tdiv 2) (by omega) (by omega) (by omega) (by omega) (by omega) (by omega) P hP x37 x38 x39 x40 x41 x42 x43 x44 x46 x47 x48 x50 x51 x52 x54 x55 x56
  have hc := hc [x0, x1, x2, wds us, x4, x5, x6, x7, x8, x9, x10, .node w.d, x12, x13, x14, x15, x16, x17, x18, x19, x20, x21, x22, x23, x24, I i, hfs hs, x27, x28, x29, x30, x31, x32, x33, .node o.d] rfl x37 (U32 (atS us i).n) (U32 ((atS us i).n.tmod 2)) (I ((atS us i).n.tmod 2)) (I T0) (I (2 * dx)) (I (dy * T0)) (I ((dy * T0).tdiv 2)) (I (2 * dy)) (I (dx * T0)) (I ((dx * T0).tdiv 2)) (I (2 * dx)) (I (dy * T0)) (I ((dy * T0).tdiv 2)) (I (2 * dy)) (I (dx * T0)) (I ((dx * T0).tdiv 2))
  have hw : wrapN (show i < 9223372036854775807 from hi) = wrapN hi := rfl
  simp only [List.cons_append, List.nil_append] at hc
  cases hb : badS dx dy (2 * dx + (dy * T0).tdiv 2) (2 * dy - (dx * T0).tdiv 2) (2 * dx - (dy * T0).tdiv 2) (2 * dy + (dx * T0).tdiv 2) with
  | true =>
    rw [hb] at hc
    simp only [I] at hc h23
    exact ⟨1, _, by simp [t4, T.denV, denL, E.den, D.den1, binD, h23, w0, w1, w2, w3, w4, w5, w6, w7, w8, w9, w10, w11, hc, denVK]; rfl, .inl ⟨rfl, by simp [E.den]⟩⟩
  | false =>
    rw [hb] at hc
    rw [ex, ey] at hb
    obtain ⟨j, ρ, r1, r2⟩ := d4_ok hs w.x w.y o.x o.y _ _ _ _ hA hX hY hox hoy hb w rfl rfl o rfl rfl x0 x1 x2 (wds us) x4 x5 x6 x7 x8 x9 x10 x12 x13 x14 x15 x16 x17 x18 x19 x20 x21 x22 x23 x24 (I i) x27 x28 x29 x30 x31 x32 x33 (I dx) (I dy) x37 (U32 (atS us i).n) (U32 ((atS us i).n.tmod 2)) (I ((atS us i).n.tmod 2)) (I T0) (I (2 * dx)) (I (dy * T0)) (I ((dy * T0).tdiv 2)) (I (2 * dy)) (I (dx * T0)) (I ((dx * T0).tdiv 2)) (I (2 * dx)) (I (dy * T0)) (I ((dy * T0).tdiv 2)) (I (2 * dy)) (I (dx * T0)) (I ((dx * T0).tdiv 2)) (.bool false)
    refine ⟨j, ρ, ?_, .inr r2⟩
    rw [← ex, ← ey] at r1
    simp only [I] at hc h23 r1
    simp [t4, T.denV, denL, E.den, D.den1, binD, h23, w0, w1, w2, w3, w4, w5, w6, w7, w8, w9, w10, w11, hc, denVK]
    exact r1
end Go.Q
