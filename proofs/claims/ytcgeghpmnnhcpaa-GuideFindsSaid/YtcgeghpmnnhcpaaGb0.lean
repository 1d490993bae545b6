/- Guide: plain functions of numbers; halves. -/
import Derived.Test.YtcgeghpmnnhcpaaGad
import Derived.Test.YtcgeghpmnnhcpaaJL
set_option linter.unusedVariables false
set_option linter.unusedSimpArgs false
namespace Go.Q
open Go.V
def inR (n lo hi : Int) : Bool := decide (lo ≤ n) && decide (n ≤ hi)
theorem e82 (n lo hi : Int) : evL FN 82 [I n, I lo, I hi] = some (.bool (inR n lo hi)) := by
  refine evL_of (F := F82) rfl ?_
  by_cases h : lo ≤ n <;> simp [inR, F82, Fn.denV, fits, T.denV, denVK, denL, E.den, D.den1, binD, outOf, h]
theorem e87 (n lo hi : Int) : evL FN 87 [I n, I lo, I hi] = some (.bool (inR n lo hi)) := by
  refine evL_of (F := F87) rfl ?_
  by_cases h : lo ≤ n <;> simp [inR, F87, Fn.denV, fits, T.denV, denVK, denL, E.den, D.den1, binD, outOf, h]
def inS (lo hi a b : Int) : Bool := decide (a ≤ lo) && decide (lo ≤ hi) && decide (hi ≤ b)
theorem e73 (lo hi a b : Int) : evL FN 73 [.node [I lo, I hi], I a, I b] = some (.bool (inS lo hi a b)) := by
  refine evL_of (F := F73) rfl ?_
  by_cases h : a ≤ lo <;> by_cases h' : lo ≤ hi <;> simp [inS, inR, F73, Fn.denV, fits, T.denV, denVK, denL, E.den, D.cells, D.den1, binD, outOf, e82, h, h']
theorem e63 (lo hi a b : Int) : evL FN 63 [.node [I lo, I hi], I a, I b] = some (.bool (inS lo hi a b)) := by
  refine evL_of (F := F63) rfl ?_
  by_cases h : a ≤ lo <;> by_cases h' : lo ≤ hi <;> simp [inS, inR, F63, Fn.denV, fits, T.denV, denVK, denL, E.den, D.cells, D.den1, binD, outOf, h, h']
/-- A half: its numbers. -/
structure Hf where
  a : Int
  b : Int
  c : Int
  deriving DecidableEq
def Hf.d (h : Hf) : List D := [I h.a, I h.b, I h.c]
def hfs (hs : List Hf) : D := .list (hs.map Hf.d)
def Hf.ok (h : Hf) : Bool := inR h.a (-1000) 1000 && inR h.b (-1000) 1000 && (h.a != 0 || h.b != 0) && inR h.c (-100000000000) 100000000000
theorem e67 (h : Hf) : evL FN 67 [.node h.d] = some (.bool h.ok) := by
  refine evL_of (F := F67) rfl ?_
  unfold Hf.ok
  cases e1 : inR h.a (-1000) 1000 <;> cases e2 : inR h.b (-1000) 1000 <;> cases e3 : h.a != 0 <;> cases e4 : h.b != 0 <;>
    simp [F67, Fn.denV, fits, T.denV, denVK, denL, E.den, D.cells, Hf.d, D.den1, binD, outOf, e87, e1, e2, e3, e4]
theorem e66 (hs : List Hf) (hl : hs.length < 9223372036854775807) : evL FN 66 [hfs hs, .fn 67 [] []] = some (.bool (hs.all Hf.ok)) := by
  refine evL_of (F := F66) rfl ?_
  simp only [F66, Fn.denV, fits, T.denV, denVK, denL, E.den, hfs, D.den1, List.getD_cons_zero, List.getD_cons_succ, Bool.and_true, Bool.and_self, if_true, List.cons_append, List.nil_append, List.length_map]
  rw [iter_all (p := Hf.ok) (t := 0) (u := 1) (xs := hs)]
  · cases hs.all Hf.ok <;> simp [denVK, T.denV, E.den]
  · intro i h hi
    obtain ⟨hlt, rfl⟩ := List.getElem?_eq_some_iff.1 hi
    have h67 := e67 (hs[i])
    simp only [Hf.d] at h67
    simp [binD, hlt, idx_nat hlt, hi, Hf.d, partD, D.cells, h67, D.flat, D.flat0, unD, wrapN (show i < 9223372036854775807 by omega)]
    cases (hs[i]).ok <;> simp [outOf, denL, E.den]
  · simp [binD, outOf, denL]
end Go.Q
