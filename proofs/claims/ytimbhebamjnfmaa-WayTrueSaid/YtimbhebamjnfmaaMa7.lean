/- Ported: the reference's checks of lands -/
import Derived.Test.YtimbhebamjnfmaaMa6
set_option linter.unusedVariables false
set_option linter.unusedSimpArgs false
set_option maxRecDepth 100000
namespace Go.Q
open Go.V
theorem e185 (n lo hi : Int) : evL FN 185 [I n, I lo, I hi] = some (.bool (inR n lo hi)) := by
  refine evL_of (F := F185) rfl ?_
  by_cases h : lo ≤ n <;> simp [inR, F185, Fn.denV, fits, T.denV, denVK, denL, E.den, D.den1, binD, outOf, h]
theorem e137 (lo hi a b : Int) : evL FN 137 [.node [I lo, I hi], I a, I b] = some (.bool (inS lo hi a b)) := by
  refine evL_of (F := F137) rfl ?_
  by_cases h : a ≤ lo <;> by_cases h' : lo ≤ hi <;> simp [inS, inR, F137, Fn.denV, fits, T.denV, denVK, denL, E.den, D.cells, D.den1, binD, outOf, e185, h, h']
theorem e75 (a b : Int) : evL FN 75 [.node [I a, I b]] = some (.bool (inS a b 1 100000)) := by
  refine evL_of (F := F75) rfl ?_
  simp [F75, Fn.denV, fits, T.denV, denVK, denL, E.den, D.cells, e137]
theorem e136 (ws : List Wl) (ls : List Lg) (hw : ws.length ≤ 9223372036854775807) (hl : ls.length ≤ 9223372036854775807) (hb : big ls) : evL FN 136 [landD ws ls] = some (.bool (landOK ws ls)) := by
  refine evL_of (F := F136) rfl ?_
  have h70 := e185 (ws.length : Int) 1 12
  unfold landOK landD
  simp only [I] at h70
  simp [F136, Fn.denV, fits, T.denV, denL, E.den, D.cells, wls, lgs, D.den1, h70, unD]
  cases e1 : inR ws.length 1 12
  · simp [outOf, denL, E.den, denVK, T.denV]
  by_cases e2 : ls.length ≤ 24
  rotate_left
  · have e2' : (24 : Int) < ls.length := by omega
    simp [outOf, denL, E.den, denVK, T.denV, D.den1, binD, e2, e2', D.cells]
  have e2' : ¬ (24 : Int) < ls.length := by omega
  simp only [outOf, denL, E.den, denVK, T.denV, D.den1, binD, e2, e2', D.cells, Option.map_some, List.getElem?_cons_zero, List.getElem?_cons_succ, List.getD_cons_zero, List.getD_cons_succ, List.cons_append, List.nil_append, if_true, if_false, Bool.not_true, Bool.false_eq_true, decide_false]
  simp [outOf, denL, E.den, denVK, T.denV, D.den1, binD, e2, e2', D.cells]
  rw [iter_all (p := Wl.ok) (t := 0) (u := 1) (xs := ws)]
  rotate_left
  · intro i w hi
    obtain ⟨hlt, rfl⟩ := List.getElem?_eq_some_iff.1 hi
    simp [hlt, idx_nat hlt, hi, Wl.d, partD, D.cells, e185, e137, unD, wrapN (show i < 9223372036854775807 by omega), Wl.ok]
    generalize inR (ws[i]).x (-10000000) 10000000 = b1; generalize inR (ws[i]).y (-10000000) 10000000 = b2; generalize inR (ws[i]).dp 0 200 = b3; generalize inS (ws[i]).yl (ws[i]).yh 0 10000000 = b4; generalize inR (ws[i]).room 0 1000000000 = b5; generalize inS (ws[i]).hl (ws[i]).hh 0 (ws[i]).room = b6; generalize inR (ws[i]).own 0 9999 = b7
    cases b1
    · simp [outOf, denL, E.den, denVK, T.denV]
    cases b2
    · simp [outOf, denL, E.den, denVK, T.denV]
    cases b3
    · simp [outOf, denL, E.den, denVK, T.denV]
    cases b4
    · simp [outOf, denL, E.den, denVK, T.denV]
    cases b5
    · simp [outOf, denL, E.den, denVK, T.denV]
    cases b6
    · simp [outOf, denL, E.den, denVK, T.denV]
    cases b7 <;> simp [outOf, denL, E.den, denVK, T.denV, D.den1, binD, wrapN (show i < 9223372036854775807 by omega)]
  · simp [outOf, denL]
  cases e3 : ws.all Wl.ok
  · simp [denVK, T.denV, E.den]
  simp [outOf, denL, E.den, denVK, T.denV, D.den1, binD, D.cells]
  rw [iter_all (p := Lg.ok ws.length) (t := 0) (u := 1) (xs := ls)]
  · cases ls.all (Lg.ok ws.length) <;> simp [denVK, T.denV, E.den]
  · intro i l hi
    obtain ⟨hlt, rfl⟩ := List.getElem?_eq_some_iff.1 hi
    have hg : (ls[i]).gs.length ≤ 9223372036854775807 := hb _ (List.getElem_mem hlt)
    have hwn : IntKind.i64.wrap ((ws.length : Int) - 1) = ws.length - 1 := IntWalk.i64_in _ (by omega)
    simp [hlt, idx_nat hlt, hi, Lg.d, gts, partD, D.cells, e185, e137, unD, hwn, Lg.ok]
    cases f1 : inR (ls[i]).a 0 (ws.length - 1)
    · simp [outOf, denL, E.den, denVK, T.denV, D.den1, unD, binD, D.cells]
    cases f2 : inR (ls[i]).b 0 (ws.length - 1)
    · simp [outOf, denL, E.den, denVK, T.denV, D.den1, unD, binD, D.cells, hwn, e185, f2]
    by_cases f3 : (ls[i]).a = (ls[i]).b
    · rw [f3] at f1
      simp [outOf, denL, E.den, denVK, T.denV, D.den1, unD, binD, D.cells, hwn, e185, f1, f2, f3]
    cases f4 : inS (ls[i]).lo (ls[i]).hi 1 1000000
    · simp [outOf, denL, E.den, denVK, T.denV, D.den1, unD, binD, D.cells, hwn, e185, e137, f1, f2, f3, f4]
    by_cases f5 : (ls[i]).gs.length ≤ 6
    rotate_left
    · have f5' : (6 : Int) < (ls[i]).gs.length := by omega
      simp [outOf, denL, E.den, denVK, T.denV, D.den1, unD, binD, D.cells, hwn, e185, e137, f1, f2, f3, f4, f5, f5', gok]
    have f5' : ¬ (6 : Int) < (ls[i]).gs.length := by omega
    simp [outOf, denL, E.den, denVK, T.denV, D.den1, unD, binD, D.cells, hwn, e185, e137, f1, f2, f3, f4, f5, f5', gok]
    generalize hgs : (ls[i]).gs = gs at hg f5 ⊢
    rw [iter_allN gs.length (gat gs) (fun k => [I (gpv gs k), I k]) 0 1 [] [] (by simp [gpv])]
    · cases allN (gat gs) gs.length <;> simp [denVK, T.denV, E.den, denL, outOf, D.den1, binD, wrapN (show i < 9223372036854775807 by omega)]
    · intro k hk _
      simp [hk, idx_nat hk, Gt.d, partD, D.cells, e137, gat, gstep, gpv_succ hk, unD, wrapN (show k < 9223372036854775807 by omega)]
      cases e1 : inS gs[k].ol gs[k].oh 0 100000 <;> simp [outOf, denL, E.den, denVK, T.denV, D.den1, unD]
      cases e2 : inS gs[k].sl gs[k].sh 0 100000 <;> simp [outOf, denL, E.den, denVK, T.denV, D.den1, unD, binD]
      by_cases e3 : gs[k].ol ≤ gs[k].sh <;> by_cases e4 : gpv gs k < gs[k].ol
      · have e3' : ¬ gs[k].sh < gs[k].ol := by omega
        have e4' : ¬ gs[k].ol ≤ gpv gs k := by omega
        simp [e3, e4, e3', e4', outOf, denL, E.den, denVK, T.denV, D.den1, unD, binD, D.cells, wrapN (show k < 9223372036854775807 by omega)]
      · have e3' : ¬ gs[k].sh < gs[k].ol := by omega
        have e4' : gs[k].ol ≤ gpv gs k := by omega
        simp [e3, e4, e3', e4', outOf, denL, E.den, denVK, T.denV, D.den1, unD, binD, D.cells]
      · have e3' : gs[k].sh < gs[k].ol := by omega
        simp [e3, e3', outOf, denL, E.den, denVK, T.denV, D.den1, unD, binD, D.cells]
      · have e3' : gs[k].sh < gs[k].ol := by omega
        simp [e3, e3', outOf, denL, E.den, denVK, T.denV, D.den1, unD, binD, D.cells]
    · intro _
      simp [outOf, denL]
  · simp [outOf, denL]
theorem e74 (ws : List Wl) (ls : List Lg) (hw : ws.length ≤ 9223372036854775807) (hl : ls.length ≤ 9223372036854775807) (hb : big ls) : evL FN 74 [landD ws ls] = some (I (if landOK ws ls then 0 else 30)) := by
  refine evL_of (F := F74) rfl ?_
  have h := e136 ws ls hw hl hb
  simp only [landD, wls, lgs] at h ⊢
  cases e : landOK ws ls <;> rw [e] at h <;> simp [F74, Fn.denV, fits, T.denV, denL, E.den, D.cells, D.den1, unD, h]
end Go.Q
