/- Lands, valid (TopStage). -/
import Derived.Test.YtecgohommehdpaaWrd
import Derived.Test.YtecgohommehdpaaJL
set_option linter.unusedVariables false
set_option linter.unusedSimpArgs false
set_option maxRecDepth 100000
namespace Go.Q
open Go.V
def inR (n lo hi : Int) : Bool := decide (lo ≤ n) && decide (n ≤ hi)
theorem inR_iff {n lo hi : Int} : inR n lo hi = true ↔ lo ≤ n ∧ n ≤ hi := by simp [inR]
theorem e97 (n lo hi : Int) : evL FN 97 [I n, I lo, I hi] = some (.bool (inR n lo hi)) := by
  refine evL_of (F := F97) rfl ?_
  by_cases h : lo ≤ n <;> simp [inR, F97, Fn.denV, fits, T.denV, denVK, denL, E.den, D.den1, binD, outOf, h]
def inS (lo hi a b : Int) : Bool := decide (a ≤ lo) && decide (lo ≤ hi) && decide (hi ≤ b)
theorem e115 (lo hi a b : Int) : evL FN 115 [.node [I lo, I hi], I a, I b] = some (.bool (inS lo hi a b)) := by
  refine evL_of (F := F115) rfl ?_
  by_cases h : a ≤ lo <;> by_cases h' : lo ≤ hi <;> simp [inS, inR, F115, Fn.denV, fits, T.denV, denVK, denL, E.den, D.cells, D.den1, binD, outOf, h, h']
theorem e72 (n : Int) : evL FN 72 [I n] = some (.bool (inR n 0 100000)) := by
  refine evL_of (F := F72) rfl ?_
  simp [F72, Fn.denV, fits, T.denV, denVK, denL, E.den, D.den1, e97]
theorem e74 (n : Int) : evL FN 74 [I n] = some (.node [I n, I n]) := by
  refine evL_of (F := F74) rfl ?_
  simp [F74, Fn.denV, fits, T.denV, denVK, denL, E.den]
theorem e68 (a b : Int) : evL FN 68 [.node [I a, I b]] = some (.node [I a, I b]) := by
  refine evL_of (F := F68) rfl ?_
  simp [F68, Fn.denV, fits, T.denV, denVK, denL, E.den, D.cells]
/-- A number rounded up, as long as nothing overflows. -/
def dvd' (n k : Int) : Int := IntKind.i64.wrap ((IntKind.i64.wrap (IntKind.i64.wrap (n + k) - 1)).tdiv k)
theorem e98 (n k : Int) (hk : k ≠ 0) : evL FN 98 [I n, I k] = some (I (dvd' n k)) := by
  refine evL_of (F := F98) rfl ?_
  simp [F98, Fn.denV, fits, T.denV, denVK, denL, E.den, D.den1, binD, hk, dvd']
/-- A gate, a leg, a well. -/
structure Gt where
  ol : Int
  oh : Int
  sl : Int
  sh : Int
  deriving DecidableEq
def Gt.d (g : Gt) : List D := [I g.ol, I g.oh, I g.sl, I g.sh]
structure Lg where
  a : Int
  b : Int
  lo : Int
  hi : Int
  gs : List Gt
def gts (gs : List Gt) : D := .list (gs.map Gt.d)
def Lg.d (l : Lg) : List D := [I l.a, I l.b, I l.lo, I l.hi, gts l.gs]
structure Wl where
  x : Int
  y : Int
  dp : Int
  yl : Int
  yh : Int
  room : Int
  hl : Int
  hh : Int
  own : Int
  deriving DecidableEq
def Wl.d (w : Wl) : List D := [I w.x, I w.y, I w.dp, I w.yl, I w.yh, I w.room, I w.hl, I w.hh, I w.own]
def wls (ws : List Wl) : D := .list (ws.map Wl.d)
def lgs (ls : List Lg) : D := .list (ls.map Lg.d)
theorem e66 (i : Int) (ls : List Lg) (hl : ls.length ≤ 9223372036854775807) : evL FN 66 [I i, lgs ls] = some (.bool (inR i 0 (ls.length - 1))) := by
  refine evL_of (F := F66) rfl ?_
  simp [F66, Fn.denV, fits, T.denV, denVK, denL, E.den, lgs, D.den1, binD, IntWalk.i64_in ((ls.length : Int) - 1) (by omega), e97]
theorem e94 (i : Int) (ws : List Wl) (hl : ws.length ≤ 9223372036854775807) : evL FN 94 [I i, wls ws] = some (.bool (inR i 0 (ws.length - 1))) := by
  refine evL_of (F := F94) rfl ?_
  simp [F94, Fn.denV, fits, T.denV, denVK, denL, E.den, wls, D.den1, binD, IntWalk.i64_in ((ws.length : Int) - 1) (by omega), e97]
def Wl.ok (w : Wl) : Bool := inR w.x (-10000000) 10000000 && inR w.y (-10000000) 10000000 && inR w.dp 0 200 && inS w.yl w.yh 0 10000000 && inR w.room 0 1000000000 && inS w.hl w.hh 0 w.room && inR w.own 0 9999
theorem e117 (w : Wl) : evL FN 117 [.node w.d] = some (.bool w.ok) := by
  refine evL_of (F := F117) rfl ?_
  unfold Wl.ok
  simp [F117, Fn.denV, fits, T.denV, denL, E.den, D.cells, Wl.d, e97, e115]
  cases e1 : inR w.x (-10000000) 10000000 <;> simp [outOf, denL, E.den, denVK, T.denV]
  cases e2 : inR w.y (-10000000) 10000000 <;> simp [outOf, denL, E.den, denVK, T.denV]
  cases e3 : inR w.dp 0 200 <;> simp [outOf, denL, E.den, denVK, T.denV]
  cases e4 : inS w.yl w.yh 0 10000000 <;> simp [outOf, denL, E.den, denVK, T.denV]
  cases e5 : inR w.room 0 1000000000 <;> simp [outOf, denL, E.den, denVK, T.denV]
  cases e6 : inS w.hl w.hh 0 w.room <;> simp [outOf, denL, E.den, denVK, T.denV]
/-- Where a gate's days must begin behind; whether it is right there. -/
def gpv (gs : List Gt) (i : Nat) : Int := if i = 0 then -1 else ((gs[i - 1]?).map Gt.sh).getD 0
def gstep (p : Int) (g : Gt) : Bool := inS g.ol g.oh 0 100000 && inS g.sl g.sh 0 100000 && decide (g.ol ≤ g.sh) && decide (p < g.ol)
def gat (gs : List Gt) (i : Nat) : Bool := (gs[i]?).all (gstep (gpv gs i))
def gok (gs : List Gt) : Bool := decide (gs.length ≤ 6) && allN (gat gs) gs.length
theorem gpv_succ {gs : List Gt} {i : Nat} (h : i < gs.length) : gpv gs (i + 1) = gs[i].sh := by simp [gpv, h]
theorem e130 (gs : List Gt) (hl : gs.length ≤ 9223372036854775807) : evL FN 130 [gts gs] = some (.bool (gok gs)) := by
  refine evL_of (F := F130) rfl ?_
  unfold gok
  by_cases h6 : gs.length ≤ 6
  rotate_left
  · have h6' : (gs.length : Int) > 6 := by omega
    simp [F130, Fn.denV, fits, T.denV, denL, E.den, gts, D.den1, binD, h6, h6']
  have h6' : ¬ (6 < (gs.length : Int)) := by omega
  simp [F130, Fn.denV, fits, T.denV, denL, E.den, gts, D.den1, binD, h6, h6']
  rw [iter_allN gs.length (gat gs) (fun i => [I (gpv gs i), I i]) 0 1 [] [] (by simp [gpv])]
  · cases allN (gat gs) gs.length <;> simp [denVK, T.denV, E.den]
  · intro i hi _
    have h115a := e115 gs[i].ol gs[i].oh 0 100000
    have h115b := e115 gs[i].sl gs[i].sh 0 100000
    simp [hi, idx_nat hi, Gt.d, partD, D.cells, h115a, h115b, gat, gstep, gpv_succ hi, unD, wrapN (show i < 9223372036854775807 by omega)]
    cases e1 : inS gs[i].ol gs[i].oh 0 100000 <;> simp [outOf, denL, E.den, denVK, T.denV, D.den1, unD]
    cases e2 : inS gs[i].sl gs[i].sh 0 100000 <;> simp [outOf, denL, E.den, denVK, T.denV, D.den1, unD, binD]
    by_cases e3 : gs[i].ol ≤ gs[i].sh <;> by_cases e4 : gpv gs i < gs[i].ol
    · have e3' : ¬ gs[i].sh < gs[i].ol := by omega
      have e4' : ¬ gs[i].ol ≤ gpv gs i := by omega
      simp [e3, e4, e3', e4', outOf, denL, E.den, denVK, T.denV, D.den1, unD, binD, D.cells, wrapN (show i < 9223372036854775807 by omega)]
    · have e3' : ¬ gs[i].sh < gs[i].ol := by omega
      have e4' : gs[i].ol ≤ gpv gs i := by omega
      simp [e3, e4, e3', e4', outOf, denL, E.den, denVK, T.denV, D.den1, unD, binD, D.cells]
    · have e3' : gs[i].sh < gs[i].ol := by omega
      simp [e3, e3', outOf, denL, E.den, denVK, T.denV, D.den1, unD, binD, D.cells]
    · have e3' : gs[i].sh < gs[i].ol := by omega
      simp [e3, e3', outOf, denL, E.den, denVK, T.denV, D.den1, unD, binD, D.cells]
  · intro _
    simp [outOf, denL]
def big (ls : List Lg) : Prop := ∀ l ∈ ls, l.gs.length ≤ 9223372036854775807
theorem e118 (l : Lg) (hl : l.gs.length ≤ 9223372036854775807) : evL FN 118 [.node l.d] = some (.bool ((l.a != l.b) && inS l.lo l.hi 1 1000000 && gok l.gs)) := by
  refine evL_of (F := F118) rfl ?_
  have h := e130 l.gs hl
  simp only [gts] at h
  by_cases e1 : l.a = l.b
  · simp [F118, Fn.denV, fits, T.denV, denL, E.den, D.cells, Lg.d, gts, D.den1, binD, e1, outOf, denVK]
  · simp [F118, Fn.denV, fits, T.denV, denL, E.den, D.cells, Lg.d, gts, D.den1, binD, e1, outOf, denVK, e115, h]
    have e1' : (l.a != l.b) = true := by simp [e1]
    cases e2 : inS l.lo l.hi 1 1000000 <;> simp [outOf, denL, E.den, denVK, T.denV, e1]
def Lg.ok (n : Int) (l : Lg) : Bool := inR l.a 0 (n - 1) && inR l.b 0 (n - 1) && (l.a != l.b) && inS l.lo l.hi 1 1000000 && gok l.gs
def landOK (ws : List Wl) (ls : List Lg) : Bool := inR ws.length 1 12 && decide (ls.length ≤ 24) && ws.all Wl.ok && ls.all (Lg.ok ws.length)
def landD (ws : List Wl) (ls : List Lg) : D := .node [wls ws, lgs ls]
theorem e77 (ws : List Wl) (ls : List Lg) (hw : ws.length ≤ 9223372036854775807) (hl : ls.length ≤ 9223372036854775807) (hb : big ls) : evL FN 77 [landD ws ls] = some (.bool (landOK ws ls)) := by
  refine evL_of (F := F77) rfl ?_
  have h97 := e97 (ws.length : Int) 1 12
  unfold landOK landD
  simp only [I] at h97
  simp [F77, Fn.denV, fits, T.denV, denL, E.den, D.cells, wls, lgs, D.den1, h97, unD]
  cases e1 : inR ws.length 1 12
  · simp [outOf, denL, E.den, denVK, T.denV]
  by_cases e2 : ls.length ≤ 24
  rotate_left
  · have e2' : (24 : Int) < ls.length := by omega
    simp [outOf, denL, E.den, denVK, T.denV, D.den1, binD, e2, e2', D.cells]
  have e2' : ¬ (24 : Int) < ls.length := by omega
  simp [outOf, denL, E.den, denVK, T.denV, D.den1, binD, e2, e2', D.cells]
  rw [iter_all (p := Wl.ok) (t := 0) (u := 1) (xs := ws)]
  rotate_left
  · intro i w hi
    obtain ⟨hlt, rfl⟩ := List.getElem?_eq_some_iff.1 hi
    have h := e117 (ws[i])
    simp only [Wl.d, I] at h
    simp [hlt, idx_nat hlt, hi, Wl.d, partD, D.cells, h, unD, wrapN (show i < 9223372036854775807 by omega)]
    cases (ws[i]).ok <;> simp [outOf, denL, E.den]
  · simp [outOf, denL]
  cases e3 : ws.all Wl.ok
  · simp [denVK, T.denV, E.den]
  simp [outOf, denL, E.den, denVK, T.denV, D.den1, binD, D.cells]
  rw [iter_all (p := Lg.ok ws.length) (t := 0) (u := 1) (xs := ls)]
  · cases ls.all (Lg.ok ws.length) <;> simp [denVK, T.denV, E.den]
  · intro i l hi
    obtain ⟨hlt, rfl⟩ := List.getElem?_eq_some_iff.1 hi
    have h := e118 (ls[i]) (hb _ (List.getElem_mem hlt))
    have ha := e94 (ls[i]).a ws hw
    have hb' := e94 (ls[i]).b ws hw
    simp only [Lg.d, gts, wls, I] at h ha hb'
    simp [hlt, idx_nat hlt, hi, Lg.d, gts, partD, D.cells, h, ha, hb', unD, wrapN (show i < 9223372036854775807 by omega), Lg.ok]
    cases f1 : inR (ls[i]).a 0 (ws.length - 1)
    · simp [outOf, denL, E.den, denVK, T.denV, D.den1, unD, binD, D.cells]
    cases f2 : inR (ls[i]).b 0 (ws.length - 1)
    · simp [outOf, denL, E.den, denVK, T.denV, D.den1, unD, binD, D.cells]
    simp [outOf, denL, E.den, denVK, T.denV, D.den1, unD, binD, D.cells, wrapN (show i < 9223372036854775807 by omega)]
    by_cases g1 : (ls[i]).a = (ls[i]).b
    · simp [g1, outOf, denL, E.den]
    cases g2 : inS (ls[i]).lo (ls[i]).hi 1 1000000 <;> cases g3 : gok (ls[i]).gs <;> simp [g1, g2, g3, outOf, denL, E.den]
  · simp [outOf, denL]
theorem e21 (ws : List Wl) (ls : List Lg) (hw : ws.length ≤ 9223372036854775807) (hl : ls.length ≤ 9223372036854775807) (hb : big ls) : evL FN 21 [landD ws ls] = some (I (if landOK ws ls then 0 else 30)) := by
  refine evL_of (F := F21) rfl ?_
  have h := e77 ws ls hw hl hb
  simp only [landD, wls, lgs] at h ⊢
  cases e : landOK ws ls <;> rw [e] at h <;> simp [F21, Fn.denV, fits, T.denV, denL, E.den, D.cells, D.den1, unD, h]
def askE (ws : List Wl) (ls : List Lg) (pl ph : Int) : Int := if landOK ws ls then (if inS pl ph 1 100000 then 0 else 31) else 30
def carD (ws : List Wl) (ls : List Lg) (pl ph w a b : Int) : List D := [wls ws, lgs ls, I pl, I ph, I w, I a, I b]
theorem e65 (ws : List Wl) (ls : List Lg) (pl ph : Int) (hw : ws.length ≤ 9223372036854775807) (hl : ls.length ≤ 9223372036854775807) (hb : big ls) : evL FN 65 [landD ws ls, .node [I pl, I ph]] =
    some (.node [.node (if askE ws ls pl ph = 0 then carD ws ls pl ph 0 0 0 else carD [] [] 0 0 0 0 0), I (askE ws ls pl ph)]) := by
  refine evL_of (F := F65) rfl ?_
  have h := e21 ws ls hw hl hb
  have h' := e115 pl ph 1 100000
  unfold askE carD
  simp only [landD, wls, lgs, I] at h h' ⊢
  cases e : landOK ws ls <;> rw [e] at h <;> cases e' : inS pl ph 1 100000 <;> rw [e'] at h' <;> simp [F65, Fn.denV, fits, T.denV, denL, E.den, D.cells, D.den1, unD, binD, h, h', wls, lgs]
theorem e67 (ws : List Wl) (ls : List Lg) (pl ph w a b : Int) (k : Nat) (hk : k < ls.length) (h1 : pl ≠ 0) (h2 : ph ≠ 0) : evL FN 67 [.node (carD ws ls pl ph w a b), I k] = some (.node [I (dvd' ls[k].lo ph), I (dvd' ls[k].hi pl)]) := by
  refine evL_of (F := F67) rfl ?_
  have ha := e98 ls[k].lo ph h2
  have hb := e98 ls[k].hi pl h1
  simp [F67, Fn.denV, fits, T.denV, denL, E.den, D.cells, carD, wls, lgs, D.den1, idx_nat, hk, Lg.d, gts, partD, ha, hb]
theorem askE_zero {ws : List Wl} {ls : List Lg} {pl ph : Int} : askE ws ls pl ph = 0 ↔ landOK ws ls = true ∧ inS pl ph 1 100000 = true := by
  unfold askE
  cases landOK ws ls <;> cases inS pl ph 1 100000 <;> simp
theorem pace_pos {pl ph : Int} (h : inS pl ph 1 100000 = true) : 1 ≤ pl ∧ pl ≤ ph ∧ ph ≤ 100000 := by
  simp only [inS, Bool.and_eq_true, decide_eq_true_eq] at h; exact ⟨h.1.1, h.1.2, h.2⟩
def daysR (ws : List Wl) (ls : List Lg) (leg pl ph : Int) : D :=
  if askE ws ls pl ph = 0 then match (if inR leg 0 (ls.length - 1) then ls[leg.toNat]? else none) with
    | some l => .node [.node [I (dvd' l.lo ph), I (dvd' l.hi pl)], I 0]
    | none => .node [.node [I 0, I 0], I 2]
  else .node [.node [I 0, I 0], I (askE ws ls pl ph)]
theorem e17 (ws : List Wl) (ls : List Lg) (leg pl ph : Int) (hw : ws.length ≤ 9223372036854775807) (hl : ls.length ≤ 9223372036854775807) (hb : big ls) :
    evL FN 17 [landD ws ls, I leg, .node [I pl, I ph]] = some (daysR ws ls leg pl ph) := by
  refine evL_of (F := F17) rfl ?_
  have h65 := e65 ws ls pl ph hw hl hb
  have h66 := e66 leg ls hl
  unfold daysR
  by_cases he : askE ws ls pl ph = 0
  · obtain ⟨q1, q2⟩ := askE_zero.1 he
    obtain ⟨p1, p2, p3⟩ := pace_pos q2
    rw [if_pos he] at h65 ⊢
    rw [he] at h65
    cases hr : inR leg 0 (ls.length - 1) <;> rw [hr] at h66
    · simp only [landD, wls, lgs, carD, I] at h65 h66 ⊢
      simp [F17, Fn.denV, fits, T.denV, denL, E.den, D.cells, D.den1, binD, unD, h65, h66]
    · obtain ⟨r1, r2⟩ := inR_iff.1 hr
      obtain ⟨k, rfl⟩ := Int.eq_ofNat_of_zero_le r1
      have hk : k < ls.length := by omega
      have h67 := e67 ws ls pl ph 0 0 0 k hk (by omega) (by omega)
      have h68 := e68 (dvd' ls[k].lo ph) (dvd' ls[k].hi pl)
      simp only [landD, wls, lgs, carD, I] at h65 h66 h67 h68 ⊢
      simp [F17, Fn.denV, fits, T.denV, denL, E.den, D.cells, D.den1, binD, unD, h65, h66, h67, h68, hk]
  · rw [if_neg he] at h65 ⊢
    simp only [landD, wls, lgs, carD, I] at h65 ⊢
    simp [F17, Fn.denV, fits, T.denV, denL, E.den, D.cells, D.den1, binD, unD, h65, he]
end Go.Q
