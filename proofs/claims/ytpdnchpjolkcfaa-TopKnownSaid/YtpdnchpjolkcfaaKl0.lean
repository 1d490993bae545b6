/- Lands, valid. -/
import Derived.Test.YtpdnchpjolkcfaaKb0
set_option linter.unusedVariables false
set_option linter.unusedSimpArgs false
set_option maxRecDepth 100000
namespace Go.Q
open Go.V
/-- A gate, a leg, a well. -/
structure Gt where
  ol : Int
  oh : Int
  sl : Int
  sh : Int
  deriving DecidableEq
def Gt.d (g : Gt) : List D := [I g.ol, I g.oh, I g.sl, I g.sh]
structure Lg where
  a : Int
  b : Int
  lo : Int
  hi : Int
  gs : List Gt
def gts (gs : List Gt) : D := .list (gs.map Gt.d)
def Lg.d (l : Lg) : List D := [I l.a, I l.b, I l.lo, I l.hi, gts l.gs]
structure Wl where
  x : Int
  y : Int
  dp : Int
  yl : Int
  yh : Int
  room : Int
  hl : Int
  hh : Int
  own : Int
  deriving DecidableEq
def Wl.d (w : Wl) : List D := [I w.x, I w.y, I w.dp, I w.yl, I w.yh, I w.room, I w.hl, I w.hh, I w.own]
def wls (ws : List Wl) : D := .list (ws.map Wl.d)
def lgs (ls : List Lg) : D := .list (ls.map Lg.d)
def Wl.ok (w : Wl) : Bool := inR w.x (-10000000) 10000000 && inR w.y (-10000000) 10000000 && inR w.dp 0 200 && inS w.yl w.yh 0 10000000 && inR w.room 0 1000000000 && inS w.hl w.hh 0 w.room && inR w.own 0 9999
/-- Where a gate's days must begin behind; whether it is right there. -/
def gpv (gs : List Gt) (i : Nat) : Int := if i = 0 then -1 else ((gs[i - 1]?).map Gt.sh).getD 0
def gstep (p : Int) (g : Gt) : Bool := inS g.ol g.oh 0 100000 && inS g.sl g.sh 0 100000 && decide (g.ol ≤ g.sh) && decide (p < g.ol)
def gat (gs : List Gt) (i : Nat) : Bool := (gs[i]?).all (gstep (gpv gs i))
def gok (gs : List Gt) : Bool := decide (gs.length ≤ 6) && allN (gat gs) gs.length
theorem gpv_succ {gs : List Gt} {i : Nat} (h : i < gs.length) : gpv gs (i + 1) = gs[i].sh := by simp [gpv, h]
def big (ls : List Lg) : Prop := ∀ l ∈ ls, l.gs.length ≤ 9223372036854775807
def Lg.ok (n : Int) (l : Lg) : Bool := inR l.a 0 (n - 1) && inR l.b 0 (n - 1) && (l.a != l.b) && inS l.lo l.hi 1 1000000 && gok l.gs
def landOK (ws : List Wl) (ls : List Lg) : Bool := inR ws.length 1 12 && decide (ls.length ≤ 24) && ws.all Wl.ok && ls.all (Lg.ok ws.length)
def landD (ws : List Wl) (ls : List Lg) : D := .node [wls ws, lgs ls]
theorem e57 (ws : List Wl) (ls : List Lg) (hw : ws.length ≤ 9223372036854775807) (hl : ls.length ≤ 9223372036854775807) (hb : big ls) : evL FN 57 [landD ws ls] = some (.bool (landOK ws ls)) := by
  refine evL_of (F := F57) rfl ?_
  have h70 := e93 (ws.length : Int) 1 12
  unfold landOK landD
  simp only [I] at h70
  simp [F57, Fn.denV, fits, T.denV, denL, E.den, D.cells, wls, lgs, D.den1, h70, unD]
  cases e1 : inR ws.length 1 12
  · simp [outOf, denL, E.den, denVK, T.denV]
  by_cases e2 : ls.length ≤ 24
  rotate_left
  · have e2' : (24 : Int) < ls.length := by omega
    simp [outOf, denL, E.den, denVK, T.denV, D.den1, binD, e2, e2', D.cells]
  have e2' : ¬ (24 : Int) < ls.length := by omega
  simp only [outOf, denL, E.den, denVK, T.denV, D.den1, binD, e2, e2', D.cells, Option.map_some, List.getElem?_cons_zero, List.getElem?_cons_succ, List.getD_cons_zero, List.getD_cons_succ, List.cons_append, List.nil_append, if_true, if_false, Bool.not_true, Bool.false_eq_true, decide_false]
  simp [outOf, denL, E.den, denVK, T.denV, D.den1, binD, e2, e2', D.cells]
  rw [iter_all (p := Wl.ok) (t := 0) (u := 1) (xs := ws)]
  rotate_left
  · intro i w hi
    obtain ⟨hlt, rfl⟩ := List.getElem?_eq_some_iff.1 hi
    simp [hlt, idx_nat hlt, hi, Wl.d, partD, D.cells, e93, e94, unD, wrapN (show i < 9223372036854775807 by omega), Wl.ok]
    generalize inR (ws[i]).x (-10000000) 10000000 = b1; generalize inR (ws[i]).y (-10000000) 10000000 = b2; generalize inR (ws[i]).dp 0 200 = b3; generalize inS (ws[i]).yl (ws[i]).yh 0 10000000 = b4; generalize inR (ws[i]).room 0 1000000000 = b5; generalize inS (ws[i]).hl (ws[i]).hh 0 (ws[i]).room = b6; generalize inR (ws[i]).own 0 9999 = b7
    cases b1
    · simp [outOf, denL, E.den, denVK, T.denV]
    cases b2
    · simp [outOf, denL, E.den, denVK, T.denV]
    cases b3
    · simp [outOf, denL, E.den, denVK, T.denV]
    cases b4
    · simp [outOf, denL, E.den, denVK, T.denV]
    cases b5
    · simp [outOf, denL, E.den, denVK, T.denV]
    cases b6
    · simp [outOf, denL, E.den, denVK, T.denV]
    cases b7 <;> simp [outOf, denL, E.den, denVK, T.denV, D.den1, binD, wrapN (show i < 9223372036854775807 by omega)]
  · simp [outOf, denL]
  cases e3 : ws.all Wl.ok
  · simp [denVK, T.denV, E.den]
  simp [outOf, denL, E.den, denVK, T.denV, D.den1, binD, D.cells]
  rw [iter_all (p := Lg.ok ws.length) (t := 0) (u := 1) (xs := ls)]
  · cases ls.all (Lg.ok ws.length) <;> simp [denVK, T.denV, E.den]
  · intro i l hi
    obtain ⟨hlt, rfl⟩ := List.getElem?_eq_some_iff.1 hi
    have hg : (ls[i]).gs.length ≤ 9223372036854775807 := hb _ (List.getElem_mem hlt)
    have hwn : IntKind.i64.wrap ((ws.length : Int) - 1) = ws.length - 1 := IntWalk.i64_in _ (by omega)
    simp [hlt, idx_nat hlt, hi, Lg.d, gts, partD, D.cells, e93, e94, unD, hwn, Lg.ok]
    cases f1 : inR (ls[i]).a 0 (ws.length - 1)
    · simp [outOf, denL, E.den, denVK, T.denV, D.den1, unD, binD, D.cells]
    cases f2 : inR (ls[i]).b 0 (ws.length - 1)
    · simp [outOf, denL, E.den, denVK, T.denV, D.den1, unD, binD, D.cells, hwn, e93, f2]
    by_cases f3 : (ls[i]).a = (ls[i]).b
    · rw [f3] at f1
      simp [outOf, denL, E.den, denVK, T.denV, D.den1, unD, binD, D.cells, hwn, e93, f1, f2, f3]
    cases f4 : inS (ls[i]).lo (ls[i]).hi 1 1000000
    · simp [outOf, denL, E.den, denVK, T.denV, D.den1, unD, binD, D.cells, hwn, e93, e94, f1, f2, f3, f4]
    by_cases f5 : (ls[i]).gs.length ≤ 6
    rotate_left
    · have f5' : (6 : Int) < (ls[i]).gs.length := by omega
      simp [outOf, denL, E.den, denVK, T.denV, D.den1, unD, binD, D.cells, hwn, e93, e94, f1, f2, f3, f4, f5, f5', gok]
    have f5' : ¬ (6 : Int) < (ls[i]).gs.length := by omega
    simp [outOf, denL, E.den, denVK, T.denV, D.den1, unD, binD, D.cells, hwn, e93, e94, f1, f2, f3, f4, f5, f5', gok]
    generalize hgs : (ls[i]).gs = gs at hg f5 ⊢
    rw [iter_allN gs.length (gat gs) (fun k => [I (gpv gs k), I k]) 0 1 [] [] (by simp [gpv])]
    · cases allN (gat gs) gs.length <;> simp [denVK, T.denV, E.den, denL, outOf, D.den1, binD, wrapN (show i < 9223372036854775807 by omega)]
    · intro k hk _
      simp [hk, idx_nat hk, Gt.d, partD, D.cells, e94, gat, gstep, gpv_succ hk, unD, wrapN (show k < 9223372036854775807 by omega)]
      cases e1 : inS gs[k].ol gs[k].oh 0 100000 <;> simp [outOf, denL, E.den, denVK, T.denV, D.den1, unD]
      cases e2 : inS gs[k].sl gs[k].sh 0 100000 <;> simp [outOf, denL, E.den, denVK, T.denV, D.den1, unD, binD]
      by_cases e3 : gs[k].ol ≤ gs[k].sh <;> by_cases e4 : gpv gs k < gs[k].ol
      · have e3' : ¬ gs[k].sh < gs[k].ol := by omega
        have e4' : ¬ gs[k].ol ≤ gpv gs k := by omega
        simp [e3, e4, e3', e4', outOf, denL, E.den, denVK, T.denV, D.den1, unD, binD, D.cells, wrapN (show k < 9223372036854775807 by omega)]
      · have e3' : ¬ gs[k].sh < gs[k].ol := by omega
        have e4' : gs[k].ol ≤ gpv gs k := by omega
        simp [e3, e4, e3', e4', outOf, denL, E.den, denVK, T.denV, D.den1, unD, binD, D.cells]
      · have e3' : gs[k].sh < gs[k].ol := by omega
        simp [e3, e3', outOf, denL, E.den, denVK, T.denV, D.den1, unD, binD, D.cells]
      · have e3' : gs[k].sh < gs[k].ol := by omega
        simp [e3, e3', outOf, denL, E.den, denVK, T.denV, D.den1, unD, binD, D.cells]
    · intro _
      simp [outOf, denL]
  · simp [outOf, denL]
theorem e20 (ws : List Wl) (ls : List Lg) (hw : ws.length ≤ 9223372036854775807) (hl : ls.length ≤ 9223372036854775807) (hb : big ls) : evL FN 20 [landD ws ls] = some (I (if landOK ws ls then 0 else 30)) := by
  refine evL_of (F := F20) rfl ?_
  have h := e57 ws ls hw hl hb
  simp only [landD, wls, lgs] at h ⊢
  cases e : landOK ws ls <;> rw [e] at h <;> simp [F20, Fn.denV, fits, T.denV, denL, E.den, D.cells, D.den1, unD, h]
/-- More than is considered. -/
def greatL (ws : List Wl) (ls : List Lg) : Bool := decide (20 < ws.length) || decide (40 < ls.length) || !ls.all (fun l => decide (l.gs.length ≤ 20))
theorem e19 (ws : List Wl) (ls : List Lg) (hl : ls.length ≤ 9223372036854775807) : evL FN 19 [landD ws ls] = some (.bool (greatL ws ls)) := by
  refine evL_of (F := F19) rfl ?_
  unfold greatL landD
  by_cases h1 : 20 < ws.length
  · have h1' : (20 : Int) < ws.length := by omega
    simp [F19, Fn.denV, fits, T.denV, denL, E.den, D.cells, wls, lgs, D.den1, binD, outOf, denVK, h1, h1']
  have h1' : ¬ (20 : Int) < ws.length := by omega
  by_cases h2 : 40 < ls.length
  · have h2' : (40 : Int) < ls.length := by omega
    simp [F19, Fn.denV, fits, T.denV, denL, E.den, D.cells, wls, lgs, D.den1, binD, outOf, denVK, h1, h1', h2, h2']
  have h2' : ¬ (40 : Int) < ls.length := by omega
  simp [F19, Fn.denV, fits, T.denV, denL, E.den, D.cells, wls, lgs, D.den1, binD, outOf, denVK, h1, h1', h2, h2']
  rw [iter_all (p := fun l : Lg => decide (l.gs.length ≤ 20)) (t := 0) (u := 1) (xs := ls)]
  · cases ls.all (fun l => decide (l.gs.length ≤ 20)) <;> simp [denVK, T.denV, E.den]
  · intro i l hi
    obtain ⟨hlt, rfl⟩ := List.getElem?_eq_some_iff.1 hi
    by_cases h3 : (ls[i]).gs.length ≤ 20
    · have h3' : ¬ (20 : Int) < (ls[i]).gs.length := by omega
      simp [hlt, idx_nat hlt, hi, Lg.d, gts, partD, h3, h3', outOf, denL, E.den, wrapN (show i < 9223372036854775807 by omega)]
    · have h3' : (20 : Int) < (ls[i]).gs.length := by omega
      simp [hlt, idx_nat hlt, hi, Lg.d, gts, partD, h3, h3', outOf, denL, E.den]
  · simp [outOf, denL]
end Go.Q
