/- Guide: valid areas and treks; floors. -/
import Derived.Test.YtcgeghpmnnhcpaaGb1
set_option linter.unusedVariables false
set_option linter.unusedSimpArgs false
namespace Go.Q
open Go.V
/-- A trek: its spans of days, east and north. -/
structure Tk where
  d : Int
  d' : Int
  e : Int
  e' : Int
  n : Int
  n' : Int
  deriving DecidableEq
def Tk.c (t : Tk) : List D := [I t.d, I t.d', I t.e, I t.e', I t.n, I t.n']
def Tk.ok (t : Tk) : Bool := inS t.d t.d' 0 60 && inS t.e t.e' (-100000) 100000 && inS t.n t.n' (-100000) 100000
theorem e61 (t : Tk) : evL FN 61 [.node t.c] = some (.bool t.ok) := by
  refine evL_of (F := F61) rfl ?_
  unfold Tk.ok
  cases e1 : inS t.d t.d' 0 60 <;> cases e2 : inS t.e t.e' (-100000) 100000 <;>
    simp [F61, Fn.denV, fits, T.denV, denVK, denL, E.den, D.cells, Tk.c, D.den1, binD, outOf, e63, e1, e2]
theorem e45 (t : Tk) : evL FN 45 [.node t.c] = some (.bool t.ok) := by
  refine evL_of (F := F45) rfl ?_
  unfold Tk.ok
  cases e1 : inS t.d t.d' 0 60 <;> cases e2 : inS t.e t.e' (-100000) 100000 <;>
    simp [F45, Fn.denV, fits, T.denV, denVK, denL, E.den, D.cells, Tk.c, D.den1, binD, outOf, e73, e1, e2]
def tks (ts : List Tk) : D := .list (ts.map Tk.c)
theorem e60 (ts : List Tk) (hl : ts.length < 9223372036854775807) : evL FN 60 [tks ts, .fn 61 [] []] = some (.bool (ts.all Tk.ok)) := by
  refine evL_of (F := F60) rfl ?_
  simp only [F60, Fn.denV, fits, T.denV, denVK, denL, E.den, tks, D.den1, List.getD_cons_zero, List.getD_cons_succ, Bool.and_true, Bool.and_self, if_true, List.cons_append, List.nil_append, List.length_map]
  rw [iter_all (p := Tk.ok) (t := 0) (u := 1) (xs := ts)]
  · cases ts.all Tk.ok <;> simp [denVK, T.denV, E.den]
  · intro i t hi
    obtain ⟨hlt, rfl⟩ := List.getElem?_eq_some_iff.1 hi
    have h61 := e61 (ts[i])
    simp only [Tk.c] at h61
    simp [binD, hlt, idx_nat hlt, hi, Tk.c, partD, D.cells, h61, D.flat, D.flat0, unD, wrapN (show i < 9223372036854775807 by omega)]
    cases (ts[i]).ok <;> simp [outOf, denL, E.den]
  · simp [binD, outOf, denL]
/-- Whether the directions of two halves are the same. -/
def Hf.par (g h : Hf) : Bool := decide (g.a = h.a) && decide (g.b = h.b)
def okA (hs : List Hf) : Bool := decide (4 ≤ hs.length) && decide (hs.length ≤ 40) && hs.all Hf.ok && (List.zipWith Hf.par hs (sides 0 0 0 0)).all id
theorem e71 (hs : List Hf) (hl : hs.length < 9223372036854775807) : evL FN 71 [.node [hfs hs]] = some (.bool (okA hs)) := by
  refine evL_of (F := F71) rfl ?_
  have h64 := e64 (a := 0) (b := 0) (c := 0) (d := 0) (by omega) (by omega) (by omega) (by omega)
  have h66 := e66 hs hl
  simp only [hfs, sides, List.map_cons, List.map_nil, Hf.d, I] at h64
  simp only [hfs] at h66
  by_cases h1 : (hs.length : Int) < 4
  · have h1' : ¬ 4 ≤ hs.length := by omega
    simp [okA, h1', F71, Fn.denV, fits, T.denV, denVK, denL, E.den, hfs, D.cells, D.den1, binD, outOf, h64, h1]
  by_cases h2 : 40 < (hs.length : Int)
  · have h2' : ¬ hs.length ≤ 40 := by omega
    simp [okA, h2', F71, Fn.denV, fits, T.denV, denVK, denL, E.den, hfs, D.cells, D.den1, binD, outOf, h64, h1, h2]
  unfold okA
  generalize hs.all Hf.ok = b at h66 ⊢
  cases b
  · simp [F71, Fn.denV, fits, T.denV, denVK, denL, E.den, hfs, D.cells, D.den1, binD, unD, outOf, h64, h66, h1, h2]
  obtain ⟨a0, a1, a2, a3, l, rfl⟩ : ∃ a0 a1 a2 a3 l, hs = a0 :: a1 :: a2 :: a3 :: l := by
    match hs, h1 with
    | a0 :: a1 :: a2 :: a3 :: l, _ => exact ⟨a0, a1, a2, a3, l, rfl⟩
    | [], h => exact absurd (by simp) h
    | [_], h => exact absurd (by simp) h
    | [_, _], h => exact absurd (by simp) h
    | [_, _, _], h => exact absurd (by simp) h
  simp only [List.map_cons, List.length_cons] at h66
  simp only [List.length_cons] at h1 h2 hl
  have h1' : ¬ (l.length : Int) + 1 + 1 + 1 + 1 < 4 := by omega
  have h2' : ¬ 40 < (l.length : Int) + 1 + 1 + 1 + 1 := by omega
  have h3 : l.length + 1 + 1 + 1 + 1 ≤ 40 := by omega
  have k0 : (0 : Int) < l.length + 1 + 1 + 1 + 1 := by omega
  have k1 : (1 : Int) < l.length + 1 + 1 + 1 + 1 := by omega
  have k2 : (2 : Int) < l.length + 1 + 1 + 1 + 1 := by omega
  have k3 : (3 : Int) < l.length + 1 + 1 + 1 + 1 := by omega
  simp [F71, Fn.denV, fits, T.denV, denVK, denL, E.den, hfs, D.cells, D.den1, binD, unD, outOf, h64, h66, h1', h2', h3]
  rw [iter_all (p := fun q : Hf × Hf => q.1.par q.2) (t := 0) (u := 1) (xs := [(a0, ⟨1, 0, 0⟩), (a1, ⟨-1, 0, 0⟩), (a2, ⟨0, 1, 0⟩), (a3, ⟨0, -1, 0⟩)])]
  · rw [show sides 0 0 0 0 = [⟨1, 0, 0⟩, ⟨-1, 0, 0⟩, ⟨0, 1, 0⟩, ⟨0, -1, 0⟩] from rfl]
    simp only [List.all_cons, List.all_nil, List.zipWith_cons_cons, List.zipWith_nil_right, id, Bool.and_true]
    generalize (a0.par ⟨1, 0, 0⟩ && _) = b
    cases b <;> simp [denVK, T.denV, E.den]
  · intro i q hi
    match i, hi with
    | 0, hi =>
      obtain rfl : (a0, ⟨1, 0, 0⟩) = q := by simpa using hi
      have w := wrapN (n := 0) (by omega)
      by_cases c1 : a0.a = 1 <;> by_cases c2 : a0.b = 0 <;> simp [Hf.par, c1, c2, I, binD, D.idx, partD, D.cells, Hf.d, outOf, denL, E.den, denVK, T.denV, D.den1, k0, k1, k2, k3] <;> decide
    | 1, hi =>
      obtain rfl : (a1, ⟨-1, 0, 0⟩) = q := by simpa using hi
      have w := wrapN (n := 1) (by omega)
      by_cases c1 : a1.a = -1 <;> by_cases c2 : a1.b = 0 <;> simp [Hf.par, c1, c2, I, binD, D.idx, partD, D.cells, Hf.d, outOf, denL, E.den, denVK, T.denV, D.den1, k0, k1, k2, k3] <;> decide
    | 2, hi =>
      obtain rfl : (a2, ⟨0, 1, 0⟩) = q := by simpa using hi
      by_cases c1 : a2.a = 0 <;> by_cases c2 : a2.b = 1 <;> simp [Hf.par, c1, c2, I, binD, D.idx, partD, D.cells, Hf.d, outOf, denL, E.den, denVK, T.denV, D.den1, k0, k1, k2, k3] <;> decide
    | 3, hi =>
      obtain rfl : (a3, ⟨0, -1, 0⟩) = q := by simpa using hi
      by_cases c1 : a3.a = 0 <;> by_cases c2 : a3.b = -1 <;> simp [Hf.par, c1, c2, I, binD, D.idx, partD, D.cells, Hf.d, outOf, denL, E.den, denVK, T.denV, D.den1, k0, k1, k2, k3] <;> decide
    | n + 4, hi => simp at hi
  · simp [binD, outOf, denL]
end Go.Q
