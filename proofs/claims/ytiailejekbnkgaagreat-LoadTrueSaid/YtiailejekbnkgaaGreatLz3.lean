/- LoadTrue: the law. -/
import Derived.Test.YtiailejekbnkgaaGreatLz2
set_option linter.unusedVariables false
set_option linter.unusedSimpArgs false
set_option maxRecDepth 100000
namespace Go.Q
open Go.V
theorem e9 : evL FN 9 [] = some (.bool true) := by
  refine evL_of (F := F9) rfl ?_
  simp [F9, Fn.denV, fits, T.denV, E.den]
theorem e3 (p : Pk) (ws : List Wd) : evL FN 3 [.node p.d, wds ws] = some (.bool true) := by
  refine evL_of (F := F3) rfl ?_
  have h9 := e9
  have hR := e10 p
  have hT := e11 p
  cases hok : p.ok with
  | false =>
    rw [hok] at hR
    simp only [Pk.d, I, U8] at hR ⊢
    simp [F3, Fn.denV, fits, T.denV, denVK, denL, E.den, D.cells, D.den1, unD, binD, outOf, wds, h9, hR]
  | true =>
    rw [hok] at hR hT
    have h := Pk.ok_iff hok
    have hm := ins_bd h.m1 (cho ws 0)
    have hm0 : p.mas ws 0 = ins p.ml p.mh (cho ws 0) := rfl
    have m0 := h.m0
    have m2 := h.m2
    have hU : evL FN 12 [.node p.d, wds ws, I 0] = some (.node [I (1000 * p.mas ws 0), I (p.gon ws 0)]) := e12 h ws (i := 0) (by omega)
    have c1 : evL FN 14 [wds ws, I 1] = some (U32 (cho ws 1)) := e14 ws 1
    have hg := gon_bd h ws 0
    have b1 := los_bd h (m := p.ml) ⟨m0, by have := h.m1; omega⟩
    have b2 := los_bd h (m := p.mh) ⟨by have := h.m1; omega, m2⟩
    have b3 := los_bd h (m := p.mas ws 0) ⟨by omega, by omega⟩
    obtain ⟨q1, q2, q3, q4⟩ := los_mono h (a := p.ml) (b := p.mas ws 0) m0 (by omega)
    obtain ⟨r1, r2, r3, r4⟩ := los_mono h (a := p.mas ws 0) (b := p.mh) (by omega) (by omega)
    have w0 : IntKind.i64.wrap (1000 * p.mas ws 0 - p.gon ws 0) = 1000 * p.mas ws 0 - p.gon ws 0 := wrapI (by omega)
    have L1 : p.lef.1 = p.ml - (p.los p.ml).2 := rfl
    have L2 : p.lef.2 = p.mh - (p.los p.mh).1 := rfl
    have L3 : p.lst.1 = (p.los p.ml).1 := rfl
    have L4 : p.lst.2 = (p.los p.mh).2 := rfl
    have w1 : IntKind.i64.wrap (1000 * p.lef.1) = 1000 * p.lef.1 := wrapI (by omega)
    have w2 : IntKind.i64.wrap (1000 * p.lef.2) = 1000 * p.lef.2 := wrapI (by omega)
    have w3 : IntKind.i64.wrap (1000 * p.lst.1) = 1000 * p.lst.1 := wrapI (by omega)
    have w4 : IntKind.i64.wrap (1000 * p.lst.2) = 1000 * p.lst.2 := wrapI (by omega)
    have n1 : ¬ p.lef.1 < 0 := by omega
    have n2 : ¬ p.lef.2 < p.lef.1 := by omega
    have n3 : ¬ p.mh < p.lef.2 := by omega
    have n4 : ¬ p.lst.1 < 0 := by omega
    have n5 : ¬ p.lst.2 < p.lst.1 := by omega
    have n6 : ¬ p.mh < p.lst.2 := by omega
    have n7 : ¬ 1000 * p.mas ws 0 - p.gon ws 0 < 1000 * p.lef.1 := by omega
    have n8 : ¬ 1000 * p.lef.2 < 1000 * p.mas ws 0 - p.gon ws 0 := by omega
    have n9 : ¬ p.gon ws 0 < 1000 * p.lst.1 := by omega
    have n10 : ¬ 1000 * p.lst.2 < p.gon ws 0 := by omega
    by_cases hk : p.kd = 1
    · have hh : 0 ≤ p.hl ∧ p.hl ≤ p.hh ∧ p.hh ≤ 1000000000 := by
        rcases h.k with ⟨k, h1, _⟩ | ⟨k, _⟩ | ⟨k, _⟩
        · rw [inS_iff] at h1; omega
        · omega
        · omega
      have g1 := e13 hh.1 hh.2.1 hh.2.2 (cho_bd ws 1)
      have hhd := ins_bd hh.2.1 (cho ws 1)
      generalize ins p.hl p.hh (cho ws 1) = hd at g1 hhd
      have hb : (p.brk = 2 → hd ≤ p.hurt) ∧ (p.brk = 0 → ¬ hd ≤ p.hurt) := by
        unfold Pk.brk
        simp only [hk, ne_eq, not_true_eq_false, false_or]
        split
        · exact ⟨fun e => by omega, fun _ => by omega⟩
        · split
          · exact ⟨fun e => by omega, fun e => by omega⟩
          · exact ⟨fun _ => by omega, fun e => by omega⟩
      have hbc := brk_cases p
      simp only [if_true] at hT
      generalize p.lef.1 = la at *
      generalize p.lef.2 = lb at *
      generalize p.lst.1 = ta at *
      generalize p.lst.2 = tb at *
      generalize p.brk = bk at hT hb hbc
      generalize p.gon ws 0 = g at *
      simp only [Pk.d, I, U8, U32, wds, hk] at hR hT hU c1 g1 ⊢
      rcases hbc with rfl | rfl | rfl
      · have := hb.2 rfl
        simp [F3, Fn.denV, fits, T.denV, denVK, denL, E.den, D.cells, D.den1, unD, binD, outOf, h9, hR, hT, hU, c1, g1, w0, w1, w2, w3, w4, n1, n2, n3, n4, n5, n6, n7, n8, n9, n10, this]
      · by_cases hx : hd ≤ p.hurt
        · simp [F3, Fn.denV, fits, T.denV, denVK, denL, E.den, D.cells, D.den1, unD, binD, outOf, h9, hR, hT, hU, c1, g1, w0, w1, w2, w3, w4, n1, n2, n3, n4, n5, n6, n7, n8, n9, n10, hx]
        · simp [F3, Fn.denV, fits, T.denV, denVK, denL, E.den, D.cells, D.den1, unD, binD, outOf, h9, hR, hT, hU, c1, g1, w0, w1, w2, w3, w4, n1, n2, n3, n4, n5, n6, n7, n8, n9, n10, hx]
      · have := hb.1 rfl
        simp [F3, Fn.denV, fits, T.denV, denVK, denL, E.den, D.cells, D.den1, unD, binD, outOf, h9, hR, hT, hU, c1, g1, w0, w1, w2, w3, w4, n1, n2, n3, n4, n5, n6, n7, n8, n9, n10, this]
    · have hb : p.brk = 0 := by simp [Pk.brk, hk]
      rw [hb] at hT
      simp only [if_true] at hT
      generalize p.lef.1 = la at *
      generalize p.lef.2 = lb at *
      generalize p.lst.1 = ta at *
      generalize p.lst.2 = tb at *
      generalize p.gon ws 0 = g at *
      simp only [Pk.d, I, U8, U32, wds] at hR hT hU c1 ⊢
      simp [F3, Fn.denV, fits, T.denV, denVK, denL, E.den, D.cells, D.den1, unD, binD, outOf, h9, hR, hT, hU, w0, w1, w2, w3, w4, n1, n2, n3, n4, n5, n6, n7, n8, n9, n10, hk]
end Go.Q
