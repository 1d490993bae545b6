/- Wells are landmarks: one look. -/
import Derived.Test.YtpdnchpjolkcfaaKt2
set_option linter.unusedVariables false
set_option linter.unusedSimpArgs false
set_option maxRecDepth 100000
namespace Go.Q
open Go.V
theorem td_bd {a : Int} (h : -800 ≤ a ∧ a ≤ 800) : -400 ≤ a.tdiv 2 ∧ a.tdiv 2 ≤ 400 := by
  by_cases g : 0 ≤ a
  · rw [Int.tdiv_eq_ediv_of_nonneg g]; omega
  · have e : a.tdiv 2 = -((-a).tdiv 2) := by rw [Int.neg_tdiv]; omega
    rw [e, Int.tdiv_eq_ediv_of_nonneg (by omega)]; omega
theorem d4_ok (hs : List Hf) (X Y ox oy fx fy tx ty : Int) (hA : Ar hs X Y) (hX : -10000000 ≤ X ∧ X ≤ 10000000) (hY : -10000000 ≤ Y ∧ Y ≤ 10000000) (hox : -10000000 ≤ ox ∧ ox ≤ 10000000) (hoy : -10000000 ≤ oy ∧ oy ≤ 10000000)
    (hb : badS (ox - X) (oy - Y) fx fy tx ty = false) (w : Wl) (hwx : w.x = X) (hwy : w.y = Y) (o : Wl) (hoX : o.x = ox) (hoY : o.y = oy)
    (x0 x1 x2 x3 x4 x5 x6 x7 x8 x9 x10 x12 x13 x14 x15 x16 x17 x18 x19 x20 x21 x22 x23 x24 x25 x27 x28 x29 x30 x31 x32 x33 x35 x36 x37 x38 x39 x40 x41 x42 x43 x44 x46 x47 x48 x50 x51 x52 x54 x55 x56 x58 : D) :
    ∃ j ρ, T.denV (evL FN) [x0, x1, x2, x3, x4, x5, x6, x7, x8, x9, x10, .node w.d, x12, x13, x14, x15, x16, x17, x18, x19, x20, x21, x22, x23, x24, x25, hfs hs, x27, x28, x29, x30, x31, x32, x33, .node o.d, x35, x36, x37, x38, x39, x40, x41, x42, x43, x44, I fx, x46, x47, x48, I fy, x50, x51, x52, I tx, x54, x55, x56, I ty, x58] d4 = some (j, ρ) ∧
      (j = 2 ∨ j = 4 ∧ ∃ hs', E.den ρ (.cell (.cell (.v 59) 0) 0) = hfs hs' ∧ Ar hs' X Y) := by
  subst hwx hwy hoX hoY
  obtain ⟨hin, hlen⟩ := okA_in hA.ok
  simp only [badS, Bool.or_eq_false_iff, decide_eq_false_iff_not] at hb
  obtain ⟨b1, b2, b3, b4⟩ := hb
  unfold max8 at b4
  have hl : (⟨1, o.x, o.y, fx, fy, tx, ty, 0, 0, 0⟩ : Lk).ok = true := by
    simp [Lk.ok, plOK, crs1, inR]
    omega
  have e24 := e24 hs ⟨1, o.x, o.y, fx, fy, tx, ty, 0, 0, 0⟩ (by omega)
  have hs' := see_ok hA hl (mark_hv (by omega) (by omega))
  simp only [Lk.c, hfs, I, U8] at e24
  rcases hs' with h | ⟨h, hA'⟩
  · rw [h] at e24
    exact ⟨2, _, by simp [d4, T.denV, denL, E.den, D.cells, hfs, Wl.d, e24, D.flat, D.flat0, D.shal, D.shal0, D.shal1, D.den1, binD, I, U8]; rfl, .inl rfl⟩
  · rw [h] at e24
    obtain ⟨hin', hlen'⟩ := okA_in hA'.ok
    have e25 := e25 _ w.x w.y hin' hlen' (by omega) (by omega)
    rw [hA'.at'] at e25
    have hsh := shal_hfs (n := 0) (hs := hs ++ (⟨1, o.x, o.y, fx, fy, tx, ty, 0, 0, 0⟩ : Lk).hv)
    generalize hs ++ (⟨1, o.x, o.y, fx, fy, tx, ty, 0, 0, 0⟩ : Lk).hv = ks at *
    simp only [hfs, I] at e24 e25 hsh
    refine ⟨4, _, by simp [d4, T.denV, denL, E.den, D.cells, hfs, Wl.d, e24, e25, hsh, D.flat, D.flat0, D.den1, binD, unD, outOf, denVK, I, U8]; rfl, .inr ⟨rfl, ks, by simp [E.den, D.cells, hfs], hA'⟩⟩
end Go.Q
