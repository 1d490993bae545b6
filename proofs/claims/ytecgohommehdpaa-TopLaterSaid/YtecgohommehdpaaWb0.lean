/- Way: plain functions of numbers, spans, wells, gates. -/
import Derived.Test.YtecgohommehdpaaWyd
import Derived.Test.YtecgohommehdpaaJL
set_option linter.unusedVariables false
set_option linter.unusedSimpArgs false
namespace Go.Q
open Go.V
def inR (n lo hi : Int) : Bool := decide (lo ≤ n) && decide (n ≤ hi)
theorem inR_iff {n lo hi : Int} : inR n lo hi = true ↔ lo ≤ n ∧ n ≤ hi := by simp [inR]
theorem e70 (n lo hi : Int) : evL FN 70 [I n, I lo, I hi] = some (.bool (inR n lo hi)) := by
  refine evL_of (F := F70) rfl ?_
  by_cases h : lo ≤ n <;> simp [inR, F70, Fn.denV, fits, T.denV, denVK, denL, E.den, D.den1, binD, outOf, h]
theorem e97 (n lo hi : Int) : evL FN 97 [I n, I lo, I hi] = some (.bool (inR n lo hi)) := by
  refine evL_of (F := F97) rfl ?_
  by_cases h : lo ≤ n <;> simp [inR, F97, Fn.denV, fits, T.denV, denVK, denL, E.den, D.den1, binD, outOf, h]
def inS (lo hi a b : Int) : Bool := decide (a ≤ lo) && decide (lo ≤ hi) && decide (hi ≤ b)
theorem e115 (lo hi a b : Int) : evL FN 115 [.node [I lo, I hi], I a, I b] = some (.bool (inS lo hi a b)) := by
  refine evL_of (F := F115) rfl ?_
  by_cases h : a ≤ lo <;> by_cases h' : lo ≤ hi <;> simp [inS, inR, F115, Fn.denV, fits, T.denV, denVK, denL, E.den, D.cells, D.den1, binD, outOf, h, h']
theorem e119 (lo hi a b : Int) : evL FN 119 [.node [I lo, I hi], I a, I b] = some (.bool (inS lo hi a b)) := by
  refine evL_of (F := F119) rfl ?_
  by_cases h : a ≤ lo <;> by_cases h' : lo ≤ hi <;> simp [inS, inR, F119, Fn.denV, fits, T.denV, denVK, denL, E.den, D.cells, D.den1, binD, outOf, e70, h, h']
theorem e72 (n : Int) : evL FN 72 [I n] = some (.bool (inR n 0 100000)) := by
  refine evL_of (F := F72) rfl ?_
  simp [F72, Fn.denV, fits, T.denV, denVK, denL, E.den, D.den1, e97]
theorem e74 (n : Int) : evL FN 74 [I n] = some (.node [I n, I n]) := by
  refine evL_of (F := F74) rfl ?_
  simp [F74, Fn.denV, fits, T.denV, denVK, denL, E.den]
theorem e68 (a b : Int) : evL FN 68 [.node [I a, I b]] = some (.node [I a, I b]) := by
  refine evL_of (F := F68) rfl ?_
  simp [F68, Fn.denV, fits, T.denV, denVK, denL, E.den, D.cells]
theorem e88 (a b : Int) : evL FN 88 [.node [I a, I b]] = some (.bool (inS a b 1 100000)) := by
  refine evL_of (F := F88) rfl ?_
  simp [F88, Fn.denV, fits, T.denV, denVK, denL, E.den, D.cells, e119]
/-- A number rounded up, as long as nothing overflows. -/
def dvd' (n k : Int) : Int := IntKind.i64.wrap ((IntKind.i64.wrap (IntKind.i64.wrap (n + k) - 1)).tdiv k)
theorem e98 (n k : Int) (hk : k ≠ 0) : evL FN 98 [I n, I k] = some (I (dvd' n k)) := by
  refine evL_of (F := F98) rfl ?_
  simp [F98, Fn.denV, fits, T.denV, denVK, denL, E.den, D.den1, binD, hk, dvd']
/-- A gate, a leg, a well. -/
structure Gt where
  ol : Int
  oh : Int
  sl : Int
  sh : Int
  deriving DecidableEq
def Gt.d (g : Gt) : List D := [I g.ol, I g.oh, I g.sl, I g.sh]
structure Lg where
  a : Int
  b : Int
  lo : Int
  hi : Int
  gs : List Gt
def gts (gs : List Gt) : D := .list (gs.map Gt.d)
def Lg.d (l : Lg) : List D := [I l.a, I l.b, I l.lo, I l.hi, gts l.gs]
structure Wl where
  x : Int
  y : Int
  dp : Int
  yl : Int
  yh : Int
  room : Int
  hl : Int
  hh : Int
  own : Int
  deriving DecidableEq
def Wl.d (w : Wl) : List D := [I w.x, I w.y, I w.dp, I w.yl, I w.yh, I w.room, I w.hl, I w.hh, I w.own]
def wls (ws : List Wl) : D := .list (ws.map Wl.d)
def lgs (ls : List Lg) : D := .list (ls.map Lg.d)
theorem e66 (i : Int) (ls : List Lg) (hl : ls.length ≤ 9223372036854775807) : evL FN 66 [I i, lgs ls] = some (.bool (inR i 0 (ls.length - 1))) := by
  refine evL_of (F := F66) rfl ?_
  simp [F66, Fn.denV, fits, T.denV, denVK, denL, E.den, lgs, D.den1, binD, IntWalk.i64_in ((ls.length : Int) - 1) (by omega), e97]
theorem e94 (i : Int) (ws : List Wl) (hl : ws.length ≤ 9223372036854775807) : evL FN 94 [I i, wls ws] = some (.bool (inR i 0 (ws.length - 1))) := by
  refine evL_of (F := F94) rfl ?_
  simp [F94, Fn.denV, fits, T.denV, denVK, denL, E.den, wls, D.den1, binD, IntWalk.i64_in ((ws.length : Int) - 1) (by omega), e97]
def Wl.ok (w : Wl) : Bool := inR w.x (-10000000) 10000000 && inR w.y (-10000000) 10000000 && inR w.dp 0 200 && inS w.yl w.yh 0 10000000 && inR w.room 0 1000000000 && inS w.hl w.hh 0 w.room && inR w.own 0 9999
theorem e117 (w : Wl) : evL FN 117 [.node w.d] = some (.bool w.ok) := by
  refine evL_of (F := F117) rfl ?_
  unfold Wl.ok
  simp [F117, Fn.denV, fits, T.denV, denL, E.den, D.cells, Wl.d, e97, e115]
  cases e1 : inR w.x (-10000000) 10000000 <;> simp [outOf, denL, E.den, denVK, T.denV]
  cases e2 : inR w.y (-10000000) 10000000 <;> simp [outOf, denL, E.den, denVK, T.denV]
  cases e3 : inR w.dp 0 200 <;> simp [outOf, denL, E.den, denVK, T.denV]
  cases e4 : inS w.yl w.yh 0 10000000 <;> simp [outOf, denL, E.den, denVK, T.denV]
  cases e5 : inR w.room 0 1000000000 <;> simp [outOf, denL, E.den, denVK, T.denV]
  cases e6 : inS w.hl w.hh 0 w.room <;> simp [outOf, denL, E.den, denVK, T.denV]
/-- Where a gate's days must begin behind; whether it is right there. -/
def gpv (gs : List Gt) (i : Nat) : Int := if i = 0 then -1 else ((gs[i - 1]?).map Gt.sh).getD 0
def gstep (p : Int) (g : Gt) : Bool := inS g.ol g.oh 0 100000 && inS g.sl g.sh 0 100000 && decide (g.ol ≤ g.sh) && decide (p < g.ol)
def gat (gs : List Gt) (i : Nat) : Bool := (gs[i]?).all (gstep (gpv gs i))
def gok (gs : List Gt) : Bool := decide (gs.length ≤ 6) && allN (gat gs) gs.length
theorem gpv_succ {gs : List Gt} {i : Nat} (h : i < gs.length) : gpv gs (i + 1) = gs[i].sh := by simp [gpv, h]
theorem e130 (gs : List Gt) (hl : gs.length ≤ 9223372036854775807) : evL FN 130 [gts gs] = some (.bool (gok gs)) := by
  refine evL_of (F := F130) rfl ?_
  unfold gok
  by_cases h6 : gs.length ≤ 6
  rotate_left
  · have h6' : (gs.length : Int) > 6 := by omega
    simp [F130, Fn.denV, fits, T.denV, denL, E.den, gts, D.den1, binD, h6, h6']
  have h6' : ¬ (6 < (gs.length : Int)) := by omega
  simp [F130, Fn.denV, fits, T.denV, denL, E.den, gts, D.den1, binD, h6, h6']
  rw [iter_allN gs.length (gat gs) (fun i => [I (gpv gs i), I i]) 0 1 [] [] (by simp [gpv])]
  · cases allN (gat gs) gs.length <;> simp [denVK, T.denV, E.den]
  · intro i hi _
    have h115a := e115 gs[i].ol gs[i].oh 0 100000
    have h115b := e115 gs[i].sl gs[i].sh 0 100000
    simp [hi, idx_nat hi, Gt.d, partD, D.cells, h115a, h115b, gat, gstep, gpv_succ hi, unD, wrapN (show i < 9223372036854775807 by omega)]
    cases e1 : inS gs[i].ol gs[i].oh 0 100000 <;> simp [outOf, denL, E.den, denVK, T.denV, D.den1, unD]
    cases e2 : inS gs[i].sl gs[i].sh 0 100000 <;> simp [outOf, denL, E.den, denVK, T.denV, D.den1, unD, binD]
    by_cases e3 : gs[i].ol ≤ gs[i].sh <;> by_cases e4 : gpv gs i < gs[i].ol
    · have e3' : ¬ gs[i].sh < gs[i].ol := by omega
      have e4' : ¬ gs[i].ol ≤ gpv gs i := by omega
      simp [e3, e4, e3', e4', outOf, denL, E.den, denVK, T.denV, D.den1, unD, binD, D.cells, wrapN (show i < 9223372036854775807 by omega)]
    · have e3' : ¬ gs[i].sh < gs[i].ol := by omega
      have e4' : gs[i].ol ≤ gpv gs i := by omega
      simp [e3, e4, e3', e4', outOf, denL, E.den, denVK, T.denV, D.den1, unD, binD, D.cells]
    · have e3' : gs[i].sh < gs[i].ol := by omega
      simp [e3, e3', outOf, denL, E.den, denVK, T.denV, D.den1, unD, binD, D.cells]
    · have e3' : gs[i].sh < gs[i].ol := by omega
      simp [e3, e3', outOf, denL, E.den, denVK, T.denV, D.den1, unD, binD, D.cells]
  · intro _
    simp [outOf, denL]
end Go.Q
