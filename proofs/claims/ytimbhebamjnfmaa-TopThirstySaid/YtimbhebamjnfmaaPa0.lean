/- Ported: way (Ra0, Ra1) -/
import Derived.Test.YtimbhebamjnfmaaTqd
import Derived.Test.YtimbhebamjnfmaaJL
set_option linter.unusedVariables false
set_option linter.unusedSimpArgs false
set_option maxRecDepth 100000
namespace Go.Q
open Go.V
def inR (n lo hi : Int) : Bool := decide (lo ≤ n) && decide (n ≤ hi)
theorem e156 (n lo hi : Int) : evL FN 156 [I n, I lo, I hi] = some (.bool (inR n lo hi)) := by
  refine evL_of (F := F156) rfl ?_
  by_cases h : lo ≤ n <;> simp [inR, F156, Fn.denV, fits, T.denV, denVK, denL, E.den, D.den1, binD, outOf, h]
def inS (lo hi a b : Int) : Bool := decide (a ≤ lo) && decide (lo ≤ hi) && decide (hi ≤ b)
theorem e145 (lo hi a b : Int) : evL FN 145 [.node [I lo, I hi], I a, I b] = some (.bool (inS lo hi a b)) := by
  refine evL_of (F := F145) rfl ?_
  by_cases h : a ≤ lo <;> by_cases h' : lo ≤ hi <;> simp [inS, inR, F145, Fn.denV, fits, T.denV, denVK, denL, E.den, D.cells, D.den1, binD, outOf, h, h']
theorem e124 (n : Int) : evL FN 124 [I n] = some (.node [I n, I n]) := by
  refine evL_of (F := F124) rfl ?_
  simp [F124, Fn.denV, fits, T.denV, denVK, denL, E.den]
/-- A gate, a leg, a well. -/
structure Gt where
  ol : Int
  oh : Int
  sl : Int
  sh : Int
  deriving DecidableEq
def Gt.d (g : Gt) : List D := [I g.ol, I g.oh, I g.sl, I g.sh]
structure Lg where
  a : Int
  b : Int
  lo : Int
  hi : Int
  gs : List Gt
def gts (gs : List Gt) : D := .list (gs.map Gt.d)
def Lg.d (l : Lg) : List D := [I l.a, I l.b, I l.lo, I l.hi, gts l.gs]
structure Wl where
  x : Int
  y : Int
  dp : Int
  yl : Int
  yh : Int
  room : Int
  hl : Int
  hh : Int
  own : Int
  deriving DecidableEq
def Wl.d (w : Wl) : List D := [I w.x, I w.y, I w.dp, I w.yl, I w.yh, I w.room, I w.hl, I w.hh, I w.own]
def Wl.ok (w : Wl) : Bool := inR w.x (-10000000) 10000000 && inR w.y (-10000000) 10000000 && inR w.dp 0 200 && inS w.yl w.yh 0 10000000 && inR w.room 0 1000000000 && inS w.hl w.hh 0 w.room && inR w.own 0 9999
/-- Where a gate's days must begin behind; whether it is right there. -/
def gpv (gs : List Gt) (i : Nat) : Int := if i = 0 then -1 else ((gs[i - 1]?).map Gt.sh).getD 0
def gstep (p : Int) (g : Gt) : Bool := inS g.ol g.oh 0 100000 && inS g.sl g.sh 0 100000 && decide (g.ol ≤ g.sh) && decide (p < g.ol)
def gat (gs : List Gt) (i : Nat) : Bool := (gs[i]?).all (gstep (gpv gs i))
def gok (gs : List Gt) : Bool := decide (gs.length ≤ 6) && allN (gat gs) gs.length
def Lg.ok (n : Int) (l : Lg) : Bool := inR l.a 0 (n - 1) && inR l.b 0 (n - 1) && (l.a != l.b) && inS l.lo l.hi 1 1000000 && gok l.gs
theorem minC (a b : Int) : (if b < a then b else a) = min a b := by rw [Int.min_def]; split <;> split <;> omega
theorem maxC (a b : Int) : (if b > a then b else a) = max a b := by rw [Int.max_def]; split <;> split <;> omega
/-- The first gate of a kind: what it gives. -/
def gate (cond : Gt → Bool) (gs : List Gt) (n : Nat) : Option Nat := firstN (fun i => !(gs[i]?).any cond) n 0
theorem wI {x : Int} (h : -9223372036854775808 ≤ x ∧ x ≤ 9223372036854775807) : IntKind.i64.wrap x = x := IntWalk.i64_in _ h
end Go.Q
