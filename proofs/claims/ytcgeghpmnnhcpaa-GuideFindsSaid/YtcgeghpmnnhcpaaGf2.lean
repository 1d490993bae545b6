/- Guide: one trek more on the way. -/
import Derived.Test.YtcgeghpmnnhcpaaGf1
set_option linter.unusedVariables false
set_option linter.unusedSimpArgs false
namespace Go.Q
open Go.V
theorem march_err {d0 d2 d3 d4 d5 d6 d7 d9 d10 d12 d13 d14 d15 d16 d17 d18 d19 d20 d23 : D} {ts : List Tk} {hs : List Hf} {t : Tk} {r0 r1 : Int} {j : Nat} (hj : j < ts.length) (hj6 : j < 60) (ht : ts[j] = t) (hl : hs.length ≤ 40) (hm : marchS hs t = ([], 9)) :
    outOf outsM13 (tM13.denV (evL FN) [d0, tks ts, d2, d3, d4, d5, d6, d7, .bool true, d9, d10, .node [I r0, I r1, I 9], d12, d13, d14, d15, d16, d17, d18, d19, d20, I ((j : Int) + 1), hfs hs, d23, .bool true]) = some (0, [.bool true]) := by
  have h25 := e25 hs t (by omega)
  rw [hm] at h25
  have s1 := shal_node_hfs (n := 3) (hs := hs)
  have sN : D.shal 1 (.list []) = true := rfl
  have hg := idx_nat hj
  have v1 := wrapI (x := (j : Int) + 1 - 1) (by omega)
  rw [show (j : Int) + 1 - 1 = j by omega] at v1
  simp only [hfs, tks, Tk.c, I, List.map_nil] at h25 s1 ⊢
  simp [tM13, outsM13, T.denV, denVK, denL, E.den, D.cells, D.den1, binD, unD, outOf, v1, hj, hg, ht, Tk.c, partD, s1, sN, h25, D.flat, D.flat0]
set_option maxHeartbeats 1600000 in
theorem march_go {d0 d2 d3 d4 d5 d6 d9 d10 d11 d12 d13 d14 d15 d16 d19 d20 d23 : D} {ts : List Tk} {ws : List Wd} {hs hs' : List Hf} {t : Tk} {px py : Int} {j : Nat} (hj : j < ts.length) (hj6 : j < 60) (ht : ts[j] = t) (q2 : t.ok = true) (hl : hs.length ≤ 40) (hm : marchS hs t = (hs', 0)) :
    ∃ pd pe pn, (t.d ≤ pd ∧ pd ≤ t.d') ∧ (t.e ≤ pe ∧ pe ≤ t.e') ∧ (t.n ≤ pn ∧ pn ≤ t.n') ∧
    outOf outsM13 (tM13.denV (evL FN) [d0, tks ts, d2, d3, d4, d5, d6, wds ws, .bool true, d9, d10, d11, d12, d13, d14, d15, d16, I px, I py, d19, d20, I ((j : Int) + 1), hfs hs, d23, .bool true]) =
      some (1, [I (IntKind.i64.wrap (px + pd * pe)), I (IntKind.i64.wrap (py + pd * pn)), hfs hs']) := by
  have h25 := e25 hs t (by omega)
  rw [hm] at h25
  have s1 := shal_node_hfs (n := 3) (hs := hs)
  have s2 := shal_hfs (n := 0) (hs := hs')
  have hg := idx_nat hj
  have v1 := wrapI (x := (j : Int) + 1 - 1) (by omega)
  rw [show (j : Int) + 1 - 1 = j by omega] at v1
  have tI : (0 ≤ t.d ∧ t.d ≤ t.d' ∧ t.d' ≤ 60) ∧ (-100000 ≤ t.e ∧ t.e ≤ t.e' ∧ t.e' ≤ 100000) ∧ (-100000 ≤ t.n ∧ t.n ≤ t.n' ∧ t.n' ≤ 100000) := by
    have := q2
    simp only [Tk.ok, inS, Bool.and_eq_true, decide_eq_true_eq] at this
    omega
  have a0 := e44 ws (3 * (j + 1))
  rw [show ((3 * (j + 1) : Nat) : Int) = 3 * ((j : Int) + 1) by omega] at a0
  have a1 := e44 ws (3 * (j + 1) + 1)
  rw [show ((3 * (j + 1) + 1 : Nat) : Int) = 3 * ((j : Int) + 1) + 1 by omega] at a1
  have a2 := e44 ws (3 * (j + 1) + 2)
  rw [show ((3 * (j + 1) + 2 : Nat) : Int) = 3 * ((j : Int) + 1) + 2 by omega] at a2
  generalize atS ws (3 * (j + 1)) = b0 at *
  generalize atS ws (3 * (j + 1) + 1) = b1 at *
  generalize atS ws (3 * (j + 1) + 2) = b2 at *
  have g1 := e46 (lo := t.d) (hi := t.d') b0 (by omega) (by omega) (by omega)
  have g2 := e46 (lo := t.e) (hi := t.e') b1 (by omega) (by omega) (by omega)
  have g3 := e46 (lo := t.n) (hi := t.n') b2 (by omega) (by omega) (by omega)
  have r1 := pick_in (lo := t.d) (hi := t.d') b0 (by omega)
  have r2 := pick_in (lo := t.e) (hi := t.e') b1 (by omega)
  have r3 := pick_in (lo := t.n) (hi := t.n') b2 (by omega)
  refine ⟨_, _, _, r1, r2, r3, ?_⟩
  generalize pickS t.d t.d' b0 = pd at *
  generalize pickS t.e t.e' b1 = pe at *
  generalize pickS t.n t.n' b2 = pn at *
  have z1 := mulP (x := pd) (y := pe) (by omega) (by omega)
  have z2 := mulP (x := pd) (y := pn) (by omega) (by omega)
  have u1 := wrapI (x := 3 * ((j : Int) + 1)) (by omega)
  have u2 := wrapI (x := 3 * ((j : Int) + 1) + 1) (by omega)
  have u3 := wrapI (x := 3 * ((j : Int) + 1) + 2) (by omega)
  have u4 := wrapI (x := pd * pe) (by omega)
  have u5 := wrapI (x := pd * pn) (by omega)
  have hg0 : ¬ ((j : Int) + 1 < 0) := by omega
  simp only [hfs, tks, wds, Tk.c, I, U32] at h25 s1 s2 a0 a1 a2 g1 g2 g3 hg ⊢
  simp [tM13, outsM13, T.denV, denVK, denL, E.den, D.cells, D.den1, binD, unD, outOf, v1, hj, hg, ht, Tk.c, partD, s1, s2, h25, D.flat, D.flat0, a0, a1, a2, g1, g2, g3, u1, u2, u3, u4, u5]
theorem march_0 {d0 d1 d2 d3 d4 d5 d6 d7 d8 d9 d10 d11 d12 d13 d14 d15 d16 d17 d18 d19 d20 d21 d22 d23 : D} :
    outOf outsM13 (tM13.denV (evL FN) [d0, d1, d2, d3, d4, d5, d6, d7, d8, d9, d10, d11, d12, d13, d14, d15, d16, d17, d18, d19, d20, d21, d22, d23, .bool false]) = some (1, [d17, d18, d22]) := by
  simp [tM13, outsM13, T.denV, denL, E.den, outOf]
/-- What one finds in the end is what one has found. -/
theorem fGo_fin {x y f : Int} : ∀ (l : List Tk) (i : Nat) (s sf : Fs), fGo x y f i s l = .ok sf →
    (0 ≤ s.may → sf.may = s.may) ∧ (s.may < 0 → sf.may < 0 ∨ (i : Int) + 1 ≤ sf.may) ∧ (0 ≤ s.sure → sf.sure = s.sure) ∧ (s.sure < 0 → sf.sure < 0 ∨ (i : Int) + 1 ≤ sf.sure)
  | [], i, s, sf, h => by
    cases h
    exact ⟨fun _ => rfl, fun h => .inl h, fun _ => rfl, fun h => .inl h⟩
  | t :: l, i, s, sf, h => by
    simp only [fGo, foldI] at h
    unfold fStep at h
    split at h
    · rename_i s1 e
      split at e
      · cases e
      · cases e
        obtain ⟨a, b, c, d⟩ := fGo_fin l (i + 1) _ sf h
        simp only at a b c d
        generalize kn (s.hs.map (Hf.mv t)) (nr x y f) = k at *
        refine ⟨fun h0 => ?_, fun h0 => ?_, fun h0 => ?_, fun h0 => ?_⟩
        · have e1 : ¬ (s.may < 0 ∧ k ≠ 0) := fun h => by omega
          rw [if_neg e1] at a
          exact a h0
        · by_cases e1 : s.may < 0 ∧ k ≠ 0
          · rw [if_pos e1] at a
            right; rw [a (by omega)]; omega
          · rw [if_neg e1] at b
            rcases b h0 with h | h
            · exact .inl h
            · right; omega
        · have e1 : ¬ (s.sure < 0 ∧ k = 2) := fun h => by omega
          rw [if_neg e1] at c
          exact c h0
        · by_cases e1 : s.sure < 0 ∧ k = 2
          · rw [if_pos e1] at c
            right; rw [c (by omega)]; omega
          · rw [if_neg e1] at d
            rcases d h0 with h | h
            · exact .inl h
            · right; omega
    · cases h
end Go.Q
