/- Camel: days that are right. -/
import Derived.Test.YtecgohommehdpaaRa8
set_option linter.unusedVariables false
set_option linter.unusedSimpArgs false
set_option maxRecDepth 100000
namespace Go.Q
open Go.V
theorem e125 (xs : List Mr) (hl : xs.length ≤ 100) (hx : ∀ m ∈ xs, mrOK m = true) : evL FN 125 [.list (xs.map Mr.d)] = some (I 0) := by
  refine evL_of (F := F125) rfl ?_
  simp [F125, Fn.denV, fits, T.denV, denL, E.den, D.den1, binD]
  rw [iter_all (p := fun _ : Mr => true) (t := 0) (u := 1) (xs := xs)]
  · simp [denVK, T.denV, E.den]
  · intro i m hi
    obtain ⟨hlt, rfl⟩ := List.getElem?_eq_some_iff.1 hi
    have hm := hx _ (List.getElem_mem hlt)
    generalize hp : xs[i] = m at *
    have hM := mr_ok hm
    have a := hM.h; have b := hM.l; have c := hM.t; have d := hM.e; have e := hM.q
    have h1 := e129 60 [(m.t0, m.t1)] (by simp)
    have h2 := e129 1000000 [(m.e0, m.e1), (m.q0, m.q1)] (by simp)
    have q1 : ([(m.t0, m.t1)].all fun p => inS p.1 p.2 0 60) = true := by simp [inS]; omega
    have q2 : ([(m.e0, m.e1), (m.q0, m.q1)].all fun p => inS p.1 p.2 0 1000000) = true := by simp [inS]; omega
    rw [q1] at h1
    rw [q2] at h2
    simp only [List.map_cons, List.map_nil, I] at h1 h2
    have n1 : ¬ m.h < 0 := by omega
    have n2 : ¬ 24 < m.h := by omega
    have n3 : ¬ m.l < 0 := by omega
    have n4 : ¬ 1000000 < m.l := by omega
    simp [hlt, idx_nat hlt, hi, hp, Mr.d, partD, D.cells, binD, D.den1, wrapN (show i < 9223372036854775807 by omega), n1, n2, n3, n4, outOf, denL, E.den, denVK, T.denV, fillD, h1, h2, D.flat, D.flat0, unD, I]
  · simp [outOf, denL]
theorem e105 (b : Br) (c : Cm) (xs : List Mr) (hb : brOK b = true) (hc : cmOK b c = true) (hl : xs.length ≤ 60) (hx : ∀ m ∈ xs, mrOK m = true) : evL FN 105 [.node b.d, .node c.d, .list (xs.map Mr.d)] = some (I 0) := by
  refine evL_of (F := F105) rfl ?_
  have h1 := e112 b c
  have h2 := e125 xs (by omega) hx
  rw [show cmE b c = 0 from by simp [cmE, hb, hc]] at h1
  have hn : ¬ (60 : Int) < (xs.length : Int) := by omega
  simp only [Br.d, Cm.d, I] at h1 h2 ⊢
  simp [F105, Fn.denV, fits, T.denV, denL, E.den, D.cells, D.den1, binD, h1, h2, hn]
end Go.Q
