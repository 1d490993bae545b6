/- Wells are landmarks: the law. -/
import Derived.Test.YtpdnchpjolkcfaaKt5
set_option linter.unusedVariables false
set_option linter.unusedSimpArgs false
set_option maxRecDepth 100000
namespace Go.Q
open Go.V
def res4 : List E := [.c (.bool false), .v 4, .c (.bool false), .c (.bool false), .v 29, .c (.bool false)]
theorem eqb (b : Bool) : (b == b) = true := by cases b <;> rfl
theorem e4_ok (hs : List Hf) (w : Wl) (hX : -10000000 ≤ w.x ∧ w.x ≤ 10000000) (hY : -10000000 ≤ w.y ∧ w.y ≤ 10000000) (hA : Ar hs w.x w.y)
    (x0 x1 x2 x3 x5 x6 x7 x8 x9 x10 x12 x13 x14 x15 x16 x17 x18 x19 x20 x21 x22 x23 x24 : D) :
    ∃ j ρ, T.denV (evL FN) [x0, x1, x2, x3, .bool true, x5, x6, x7, x8, x9, x10, .node w.d, x12, x13, x14, x15, x16, x17, x18, x19, x20, x21, x22, x23, x24, hfs hs] e4t = some (j, ρ) ∧ Option.map (E.den ρ) res4[j]? = some (.bool true) := by
  obtain ⟨hin, hlen⟩ := okA_in hA.ok
  have hS := okA_sided hA.ok
  have hp := inP_iff.1 hA.at'
  have hpl : hasPl hs = true := (hasPl_sided hS).2 ⟨_, hp⟩
  have e26 := e26 hs (by omega)
  have e27 := e27 hs w.x w.y 0 (by omega)
  have hask : askOK w.x w.y 0 = true := by simp [askOK, plOK, inR]; omega
  rw [bndS_ok hA.ok hpl] at e26
  have hn : nearS hs w.x w.y 0 = (kn hs (nr w.x w.y 0), 0) := by simp [nearS, hA.ok, hask, hpl]
  rw [hn] at e27
  obtain ⟨A, B, C, E0, hbd, h1, h2, h3, h4, h5⟩ : ∃ A B C E0, bdS hs = ⟨A, B, C, E0⟩ ∧ A ≤ w.x ∧ w.x ≤ B ∧ C ≤ w.y ∧ w.y ≤ E0 ∧ (kn hs (nr w.x w.y 0) = 2 ↔ (A = w.x ∧ B = w.x) ∧ C = w.y ∧ E0 = w.y) := by
    cases e : crnR hs hs.length with
    | nil => rw [crn_nil.1 e] at hpl; cases hpl
    | cons c cs =>
      have hi := in_bounds hS e hp
      have hpp : ∀ d ∈ c :: cs, 0 < d.p := fun d hd => (crn_inA (e ▸ hd)).1
      have hb := bnd_near (x := w.x) (y := w.y) (f := 0) hpp
      have hk := kn_two (ks := nr w.x w.y 0) hS hpl
      rw [e] at hk
      simp only [pt, Int.mul_one] at hi
      refine ⟨_, _, _, _, by simp only [bdS, e], hi.1, hi.2.1, hi.2.2.1, hi.2.2.2, ?_⟩
      rw [hk, ← hb]
      omega
  have hk0 : kn hs (nr w.x w.y 0) ≠ 0 := fun h => by
    have := (kn_true hin hS hp (px := w.x) (py := w.y) (f := 0)).2 h
    omega
  rw [hbd] at e26
  simp only [bndD] at e26
  have h22 := e22 w.x w.x
  have h22' := e22 w.y w.y
  have n1 : ¬ w.x < A := by omega
  have n2 : ¬ B < w.x := by omega
  have n3 : ¬ w.y < C := by omega
  have n4 : ¬ E0 < w.y := by omega
  generalize kn hs (nr w.x w.y 0) = kk at *
  simp only [hfs, I, U8] at e26 e27 h22 h22'
  refine ⟨4, ?_⟩
  by_cases g : A = w.x ∧ B = w.x
  · by_cases g' : C = w.y ∧ E0 = w.y
    · have hk2 : kk = 2 := h5.2 ⟨g, g'⟩
      exact ⟨_, by simp [e4t, T.denV, denL, E.den, D.cells, hfs, Wl.d, e26, e27, D.flat, D.flat0, D.den1, binD, unD, outOf, denVK, n1, n2, n3, n4, hk0, h22, h22', eqD1, eqDL, g.1, g.2, g'.1, g'.2, hk2, I, U8]; rfl, by simp [res4, E.den]⟩
    · have hk2 : ¬ kk = 2 := fun h => g' (h5.1 h).2
      have kb : (kk == 2) = false := beq_eq_false_iff_ne.2 hk2
      by_cases g1 : C = w.y
      · have g2 : ¬ E0 = w.y := fun h => g' ⟨g1, h⟩
        have c2 : (E0 == w.y) = false := beq_eq_false_iff_ne.2 g2
        exact ⟨_, by simp [e4t, T.denV, denL, E.den, D.cells, hfs, Wl.d, e26, e27, D.flat, D.flat0, D.den1, binD, unD, outOf, denVK, n1, n2, n3, n4, hk0, h22, h22', eqD1, eqDL, g.1, g.2, g1, g2, c2, kb, hk2, I, U8]; rfl, by simp [res4, E.den]⟩
      · have c1 : (C == w.y) = false := beq_eq_false_iff_ne.2 g1
        exact ⟨_, by simp [e4t, T.denV, denL, E.den, D.cells, hfs, Wl.d, e26, e27, D.flat, D.flat0, D.den1, binD, unD, outOf, denVK, n1, n2, n3, n4, hk0, h22, h22', eqD1, eqDL, g.1, g.2, g1, c1, kb, hk2, I, U8]; rfl, by simp [res4, E.den]⟩
  · have hk2 : ¬ kk = 2 := fun h => g (h5.1 h).1
    have kb : (kk == 2) = false := beq_eq_false_iff_ne.2 hk2
    by_cases g1 : A = w.x
    · have g2 : ¬ B = w.x := fun h => g ⟨g1, h⟩
      have c2 : (B == w.x) = false := beq_eq_false_iff_ne.2 g2
      exact ⟨_, by simp [e4t, T.denV, denL, E.den, D.cells, hfs, Wl.d, e26, e27, D.flat, D.flat0, D.den1, binD, unD, outOf, denVK, n1, n2, n3, n4, hk0, h22, h22', eqD1, eqDL, g1, g2, c2, kb, hk2, I, U8]; rfl, by simp [res4, E.den]⟩
    · have c1 : (A == w.x) = false := beq_eq_false_iff_ne.2 g1
      exact ⟨_, by simp [e4t, T.denV, denL, E.den, D.cells, hfs, Wl.d, e26, e27, D.flat, D.flat0, D.den1, binD, unD, outOf, denVK, n1, n2, n3, n4, hk0, h22, h22', eqD1, eqDL, g1, c1, kb, hk2, I, U8]; rfl, by simp [res4, E.den]⟩
end Go.Q
