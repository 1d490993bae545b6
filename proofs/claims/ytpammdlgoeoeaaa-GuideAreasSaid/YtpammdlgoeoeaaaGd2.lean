/- Guide: the statement on areas. -/
import Derived.Test.YtpammdlgoeoeaaaGd1
set_option linter.unusedVariables false
set_option linter.unusedSimpArgs false
namespace Go.Q
open Go.V
theorem startS_len {a b c d : Int} : (startS a b c d).1.length ≤ 4 := by
  unfold startS
  split <;> simp [sides]
set_option maxHeartbeats 3200000 in
theorem e4 (hs : List Hf) (a b c d x y f : Int) :
    evL FN 4 [.node [hfs hs], .node [I a, I b], .node [I c, I d], I x, I y, I f] = some (.bool true) := by
  refine evL_of (F := F4) rfl ?_
  have h29 := e29 hs
  simp only [hfs] at h29
  by_cases k1 : 60 < hs.length
  · simp only [k1, decide_true] at h29
    simp [F4, Fn.denV, fits, T.denV, denVK, denL, E.den, D.cells, hfs, D.den1, binD, unD, outOf, h29]
  simp only [k1, decide_false] at h29
  have hl : hs.length < 9223372036854775807 := by omega
  have h30 := e30 hs (by omega)
  have h24 := e24 a b c d
  have h31 := e31 a b c d
  have h19 := e19 hs hl
  have h32 := e32 hs hl
  have h20 := e20 hs x y f hl
  have h33 := e33 hs x y f hl
  have h28 := e28 hs hl
  have h34 := e34 hs hl
  have hsl := startS_len (a := a) (b := b) (c := c) (d := d)
  have h18 := e18 (startS a b c d).1 (by omega)
  have h18' := e18 hs hl
  generalize startS a b c d = m at *
  obtain ⟨ms, me⟩ := m
  unfold bndD at h19 h32
  generalize bndS hs = r at *
  obtain ⟨⟨r1, r2⟩, ⟨r3, r4⟩, r5⟩ := r
  generalize nearS hs x y f = q at *
  obtain ⟨q1, q2⟩ := q
  generalize (if okA hs then (0 : Int) else 40) = ok at *
  simp only [hfs, I, U8] at *
  simp [F4, Fn.denV, fits, T.denV, denVK, denL, E.den, D.cells, D.den1, binD, unD, outOf, h29, h30, h24, h31, h19, h32, h20, h33, h28, h34]
  simp [h18, h18', T.denV, denVK, denL, E.den, D.cells, D.den1, binD, outOf, D.flat, D.flat0, eqDL, eqD1]
end Go.Q
