/- Ported: way (Ra0, Ra1) -/
import Derived.Test.YtimbhebamjnfmaaMqd
import Derived.Test.YtimbhebamjnfmaaJL
set_option linter.unusedVariables false
set_option linter.unusedSimpArgs false
set_option maxRecDepth 100000
namespace Go.Q
open Go.V
def inR (n lo hi : Int) : Bool := decide (lo ≤ n) && decide (n ≤ hi)
theorem inR_iff {n lo hi : Int} : inR n lo hi = true ↔ lo ≤ n ∧ n ≤ hi := by simp [inR]
theorem e142 (n lo hi : Int) : evL FN 142 [I n, I lo, I hi] = some (.bool (inR n lo hi)) := by
  refine evL_of (F := F142) rfl ?_
  by_cases h : lo ≤ n <;> simp [inR, F142, Fn.denV, fits, T.denV, denVK, denL, E.den, D.den1, binD, outOf, h]
def inS (lo hi a b : Int) : Bool := decide (a ≤ lo) && decide (lo ≤ hi) && decide (hi ≤ b)
theorem e141 (lo hi a b : Int) : evL FN 141 [.node [I lo, I hi], I a, I b] = some (.bool (inS lo hi a b)) := by
  refine evL_of (F := F141) rfl ?_
  by_cases h : a ≤ lo <;> by_cases h' : lo ≤ hi <;> simp [inS, inR, F141, Fn.denV, fits, T.denV, denVK, denL, E.den, D.cells, D.den1, binD, outOf, h, h']
theorem e84 (n : Int) : evL FN 84 [I n] = some (.bool (inR n 0 100000)) := by
  refine evL_of (F := F84) rfl ?_
  simp [F84, Fn.denV, fits, T.denV, denVK, denL, E.den, D.den1, e142]
theorem e86 (n : Int) : evL FN 86 [I n] = some (.node [I n, I n]) := by
  refine evL_of (F := F86) rfl ?_
  simp [F86, Fn.denV, fits, T.denV, denVK, denL, E.den]
theorem e87 (a b : Int) : evL FN 87 [.node [I a, I b]] = some (.node [I a, I b]) := by
  refine evL_of (F := F87) rfl ?_
  simp [F87, Fn.denV, fits, T.denV, denVK, denL, E.den, D.cells]
/-- A number rounded up, as long as nothing overflows. -/
def dvd' (n k : Int) : Int := IntKind.i64.wrap ((IntKind.i64.wrap (IntKind.i64.wrap (n + k) - 1)).tdiv k)
theorem e144 (n k : Int) (hk : k ≠ 0) : evL FN 144 [I n, I k] = some (I (dvd' n k)) := by
  refine evL_of (F := F144) rfl ?_
  simp [F144, Fn.denV, fits, T.denV, denVK, denL, E.den, D.den1, binD, hk, dvd']
/-- A gate, a leg, a well. -/
structure Gt where
  ol : Int
  oh : Int
  sl : Int
  sh : Int
  deriving DecidableEq
def Gt.d (g : Gt) : List D := [I g.ol, I g.oh, I g.sl, I g.sh]
structure Lg where
  a : Int
  b : Int
  lo : Int
  hi : Int
  gs : List Gt
def gts (gs : List Gt) : D := .list (gs.map Gt.d)
def Lg.d (l : Lg) : List D := [I l.a, I l.b, I l.lo, I l.hi, gts l.gs]
structure Wl where
  x : Int
  y : Int
  dp : Int
  yl : Int
  yh : Int
  room : Int
  hl : Int
  hh : Int
  own : Int
  deriving DecidableEq
def Wl.d (w : Wl) : List D := [I w.x, I w.y, I w.dp, I w.yl, I w.yh, I w.room, I w.hl, I w.hh, I w.own]
def wls (ws : List Wl) : D := .list (ws.map Wl.d)
def lgs (ls : List Lg) : D := .list (ls.map Lg.d)
theorem e83 (i : Int) (ls : List Lg) (hl : ls.length ≤ 9223372036854775807) : evL FN 83 [I i, lgs ls] = some (.bool (inR i 0 (ls.length - 1))) := by
  refine evL_of (F := F83) rfl ?_
  simp [F83, Fn.denV, fits, T.denV, denVK, denL, E.den, lgs, D.den1, binD, IntWalk.i64_in ((ls.length : Int) - 1) (by omega), e142]
theorem e131 (i : Int) (ws : List Wl) (hl : ws.length ≤ 9223372036854775807) : evL FN 131 [I i, wls ws] = some (.bool (inR i 0 (ws.length - 1))) := by
  refine evL_of (F := F131) rfl ?_
  simp [F131, Fn.denV, fits, T.denV, denVK, denL, E.den, wls, D.den1, binD, IntWalk.i64_in ((ws.length : Int) - 1) (by omega), e142]
def Wl.ok (w : Wl) : Bool := inR w.x (-10000000) 10000000 && inR w.y (-10000000) 10000000 && inR w.dp 0 200 && inS w.yl w.yh 0 10000000 && inR w.room 0 1000000000 && inS w.hl w.hh 0 w.room && inR w.own 0 9999
theorem e201 (w : Wl) : evL FN 201 [.node w.d] = some (.bool w.ok) := by
  refine evL_of (F := F201) rfl ?_
  unfold Wl.ok
  simp [F201, Fn.denV, fits, T.denV, denL, E.den, D.cells, Wl.d, e142, e141]
  cases e1 : inR w.x (-10000000) 10000000 <;> simp [outOf, denL, E.den, denVK, T.denV]
  cases e2 : inR w.y (-10000000) 10000000 <;> simp [outOf, denL, E.den, denVK, T.denV]
  cases e3 : inR w.dp 0 200 <;> simp [outOf, denL, E.den, denVK, T.denV]
  cases e4 : inS w.yl w.yh 0 10000000 <;> simp [outOf, denL, E.den, denVK, T.denV]
  cases e5 : inR w.room 0 1000000000 <;> simp [outOf, denL, E.den, denVK, T.denV]
  cases e6 : inS w.hl w.hh 0 w.room <;> simp [outOf, denL, E.den, denVK, T.denV]
/-- Where a gate's days must begin behind; whether it is right there. -/
def gpv (gs : List Gt) (i : Nat) : Int := if i = 0 then -1 else ((gs[i - 1]?).map Gt.sh).getD 0
def gstep (p : Int) (g : Gt) : Bool := inS g.ol g.oh 0 100000 && inS g.sl g.sh 0 100000 && decide (g.ol ≤ g.sh) && decide (p < g.ol)
def gat (gs : List Gt) (i : Nat) : Bool := (gs[i]?).all (gstep (gpv gs i))
def gok (gs : List Gt) : Bool := decide (gs.length ≤ 6) && allN (gat gs) gs.length
theorem gpv_succ {gs : List Gt} {i : Nat} (h : i < gs.length) : gpv gs (i + 1) = gs[i].sh := by simp [gpv, h]
theorem e205 (gs : List Gt) (hl : gs.length ≤ 9223372036854775807) : evL FN 205 [gts gs] = some (.bool (gok gs)) := by
  refine evL_of (F := F205) rfl ?_
  unfold gok
  by_cases h6 : gs.length ≤ 6
  rotate_left
  · have h6' : (gs.length : Int) > 6 := by omega
    simp [F205, Fn.denV, fits, T.denV, denL, E.den, gts, D.den1, binD, h6, h6']
  have h6' : ¬ (6 < (gs.length : Int)) := by omega
  simp [F205, Fn.denV, fits, T.denV, denL, E.den, gts, D.den1, binD, h6, h6']
  rw [iter_allN gs.length (gat gs) (fun i => [I (gpv gs i), I i]) 0 1 [] [] (by simp [gpv])]
  · cases allN (gat gs) gs.length <;> simp [denVK, T.denV, E.den]
  · intro i hi _
    have h115a := e141 gs[i].ol gs[i].oh 0 100000
    have h115b := e141 gs[i].sl gs[i].sh 0 100000
    simp [hi, idx_nat hi, Gt.d, partD, D.cells, h115a, h115b, gat, gstep, gpv_succ hi, unD, wrapN (show i < 9223372036854775807 by omega)]
    cases e1 : inS gs[i].ol gs[i].oh 0 100000 <;> simp [outOf, denL, E.den, denVK, T.denV, D.den1, unD]
    cases e2 : inS gs[i].sl gs[i].sh 0 100000 <;> simp [outOf, denL, E.den, denVK, T.denV, D.den1, unD, binD]
    by_cases e3 : gs[i].ol ≤ gs[i].sh <;> by_cases e4 : gpv gs i < gs[i].ol
    · have e3' : ¬ gs[i].sh < gs[i].ol := by omega
      have e4' : ¬ gs[i].ol ≤ gpv gs i := by omega
      simp [e3, e4, e3', e4', outOf, denL, E.den, denVK, T.denV, D.den1, unD, binD, D.cells, wrapN (show i < 9223372036854775807 by omega)]
    · have e3' : ¬ gs[i].sh < gs[i].ol := by omega
      have e4' : gs[i].ol ≤ gpv gs i := by omega
      simp [e3, e4, e3', e4', outOf, denL, E.den, denVK, T.denV, D.den1, unD, binD, D.cells]
    · have e3' : gs[i].sh < gs[i].ol := by omega
      simp [e3, e3', outOf, denL, E.den, denVK, T.denV, D.den1, unD, binD, D.cells]
    · have e3' : gs[i].sh < gs[i].ol := by omega
      simp [e3, e3', outOf, denL, E.den, denVK, T.denV, D.den1, unD, binD, D.cells]
  · intro _
    simp [outOf, denL]
def big (ls : List Lg) : Prop := ∀ l ∈ ls, l.gs.length ≤ 9223372036854775807
theorem e202 (l : Lg) (hl : l.gs.length ≤ 9223372036854775807) : evL FN 202 [.node l.d] = some (.bool ((l.a != l.b) && inS l.lo l.hi 1 1000000 && gok l.gs)) := by
  refine evL_of (F := F202) rfl ?_
  have h := e205 l.gs hl
  simp only [gts] at h
  by_cases e1 : l.a = l.b
  · simp [F202, Fn.denV, fits, T.denV, denL, E.den, D.cells, Lg.d, gts, D.den1, binD, e1, outOf, denVK]
  · simp [F202, Fn.denV, fits, T.denV, denL, E.den, D.cells, Lg.d, gts, D.den1, binD, e1, outOf, denVK, e141, h]
    have e1' : (l.a != l.b) = true := by simp [e1]
    cases e2 : inS l.lo l.hi 1 1000000 <;> simp [outOf, denL, E.den, denVK, T.denV, e1]
def Lg.ok (n : Int) (l : Lg) : Bool := inR l.a 0 (n - 1) && inR l.b 0 (n - 1) && (l.a != l.b) && inS l.lo l.hi 1 1000000 && gok l.gs
def landOK (ws : List Wl) (ls : List Lg) : Bool := inR ws.length 1 12 && decide (ls.length ≤ 24) && ws.all Wl.ok && ls.all (Lg.ok ws.length)
def landD (ws : List Wl) (ls : List Lg) : D := .node [wls ws, lgs ls]
theorem e184 (ws : List Wl) (ls : List Lg) (hw : ws.length ≤ 9223372036854775807) (hl : ls.length ≤ 9223372036854775807) (hb : big ls) : evL FN 184 [landD ws ls] = some (.bool (landOK ws ls)) := by
  refine evL_of (F := F184) rfl ?_
  have h97 := e142 (ws.length : Int) 1 12
  unfold landOK landD
  simp only [I] at h97
  simp [F184, Fn.denV, fits, T.denV, denL, E.den, D.cells, wls, lgs, D.den1, h97, unD]
  cases e1 : inR ws.length 1 12
  · simp [outOf, denL, E.den, denVK, T.denV]
  by_cases e2 : ls.length ≤ 24
  rotate_left
  · have e2' : (24 : Int) < ls.length := by omega
    simp [outOf, denL, E.den, denVK, T.denV, D.den1, binD, e2, e2', D.cells]
  have e2' : ¬ (24 : Int) < ls.length := by omega
  simp [outOf, denL, E.den, denVK, T.denV, D.den1, binD, e2, e2', D.cells]
  rw [iter_all (p := Wl.ok) (t := 0) (u := 1) (xs := ws)]
  rotate_left
  · intro i w hi
    obtain ⟨hlt, rfl⟩ := List.getElem?_eq_some_iff.1 hi
    have h := e201 (ws[i])
    simp only [Wl.d, I] at h
    simp [hlt, idx_nat hlt, hi, Wl.d, partD, D.cells, h, unD, wrapN (show i < 9223372036854775807 by omega)]
    cases (ws[i]).ok <;> simp [outOf, denL, E.den]
  · simp [outOf, denL]
  cases e3 : ws.all Wl.ok
  · simp [denVK, T.denV, E.den]
  simp [outOf, denL, E.den, denVK, T.denV, D.den1, binD, D.cells]
  rw [iter_all (p := Lg.ok ws.length) (t := 0) (u := 1) (xs := ls)]
  · cases ls.all (Lg.ok ws.length) <;> simp [denVK, T.denV, E.den]
  · intro i l hi
    obtain ⟨hlt, rfl⟩ := List.getElem?_eq_some_iff.1 hi
    have h := e202 (ls[i]) (hb _ (List.getElem_mem hlt))
    have ha := e131 (ls[i]).a ws hw
    have hb' := e131 (ls[i]).b ws hw
    simp only [Lg.d, gts, wls, I] at h ha hb'
    simp [hlt, idx_nat hlt, hi, Lg.d, gts, partD, D.cells, h, ha, hb', unD, wrapN (show i < 9223372036854775807 by omega), Lg.ok]
    cases f1 : inR (ls[i]).a 0 (ws.length - 1)
    · simp [outOf, denL, E.den, denVK, T.denV, D.den1, unD, binD, D.cells]
    cases f2 : inR (ls[i]).b 0 (ws.length - 1)
    · simp [outOf, denL, E.den, denVK, T.denV, D.den1, unD, binD, D.cells]
    simp [outOf, denL, E.den, denVK, T.denV, D.den1, unD, binD, D.cells, wrapN (show i < 9223372036854775807 by omega)]
    by_cases g1 : (ls[i]).a = (ls[i]).b
    · simp [g1, outOf, denL, E.den]
    cases g2 : inS (ls[i]).lo (ls[i]).hi 1 1000000 <;> cases g3 : gok (ls[i]).gs <;> simp [g1, g2, g3, outOf, denL, E.den]
  · simp [outOf, denL]
theorem e133 (ws : List Wl) (ls : List Lg) (hw : ws.length ≤ 9223372036854775807) (hl : ls.length ≤ 9223372036854775807) (hb : big ls) : evL FN 133 [landD ws ls] = some (I (if landOK ws ls then 0 else 30)) := by
  refine evL_of (F := F133) rfl ?_
  have h := e184 ws ls hw hl hb
  simp only [landD, wls, lgs] at h ⊢
  cases e : landOK ws ls <;> rw [e] at h <;> simp [F133, Fn.denV, fits, T.denV, denL, E.den, D.cells, D.den1, unD, h]
def askE (ws : List Wl) (ls : List Lg) (pl ph : Int) : Int := if landOK ws ls then (if inS pl ph 1 100000 then 0 else 31) else 30
def carD (ws : List Wl) (ls : List Lg) (pl ph w a b : Int) : List D := [wls ws, lgs ls, I pl, I ph, I w, I a, I b]
theorem e82 (ws : List Wl) (ls : List Lg) (pl ph : Int) (hw : ws.length ≤ 9223372036854775807) (hl : ls.length ≤ 9223372036854775807) (hb : big ls) : evL FN 82 [landD ws ls, .node [I pl, I ph]] =
    some (.node [.node (if askE ws ls pl ph = 0 then carD ws ls pl ph 0 0 0 else carD [] [] 0 0 0 0 0), I (askE ws ls pl ph)]) := by
  refine evL_of (F := F82) rfl ?_
  have h := e133 ws ls hw hl hb
  have h' := e141 pl ph 1 100000
  unfold askE carD
  simp only [landD, wls, lgs, I] at h h' ⊢
  cases e : landOK ws ls <;> rw [e] at h <;> cases e' : inS pl ph 1 100000 <;> rw [e'] at h' <;> simp [F82, Fn.denV, fits, T.denV, denL, E.den, D.cells, D.den1, unD, binD, h, h', wls, lgs]
theorem e88 (ws : List Wl) (ls : List Lg) (pl ph w a b : Int) (k : Nat) (hk : k < ls.length) (h1 : pl ≠ 0) (h2 : ph ≠ 0) : evL FN 88 [.node (carD ws ls pl ph w a b), I k] = some (.node [I (dvd' ls[k].lo ph), I (dvd' ls[k].hi pl)]) := by
  refine evL_of (F := F88) rfl ?_
  have ha := e144 ls[k].lo ph h2
  have hb := e144 ls[k].hi pl h1
  simp [F88, Fn.denV, fits, T.denV, denL, E.den, D.cells, carD, wls, lgs, D.den1, idx_nat, hk, Lg.d, gts, partD, ha, hb]
theorem askE_zero {ws : List Wl} {ls : List Lg} {pl ph : Int} : askE ws ls pl ph = 0 ↔ landOK ws ls = true ∧ inS pl ph 1 100000 = true := by
  unfold askE
  cases landOK ws ls <;> cases inS pl ph 1 100000 <;> simp
theorem pace_pos {pl ph : Int} (h : inS pl ph 1 100000 = true) : 1 ≤ pl ∧ pl ≤ ph ∧ ph ≤ 100000 := by
  simp only [inS, Bool.and_eq_true, decide_eq_true_eq] at h; exact ⟨h.1.1, h.1.2, h.2⟩
def daysR (ws : List Wl) (ls : List Lg) (leg pl ph : Int) : D :=
  if askE ws ls pl ph = 0 then match (if inR leg 0 (ls.length - 1) then ls[leg.toNat]? else none) with
    | some l => .node [.node [I (dvd' l.lo ph), I (dvd' l.hi pl)], I 0]
    | none => .node [.node [I 0, I 0], I 2]
  else .node [.node [I 0, I 0], I (askE ws ls pl ph)]
theorem minC (a b : Int) : (if b < a then b else a) = min a b := by rw [Int.min_def]; split <;> split <;> omega
theorem maxC (a b : Int) : (if b > a then b else a) = max a b := by rw [Int.max_def]; split <;> split <;> omega
theorem maxC' (a b : Int) : (if a < b then b else a) = max a b := by rw [Int.max_def]; split <;> split <;> omega
/-- The first gate of a kind: what it gives. -/
def gate (cond : Gt → Bool) (gs : List Gt) (n : Nat) : Option Nat := firstN (fun i => !(gs[i]?).any cond) n 0
def firstG (cond : Gt → Bool) (val : Gt → Int) (gs : List Gt) (n : Nat) : Int := match gate cond gs n with
  | some i => (gs[i]?).elim 0 val
  | none => 100001
def condM (day d : Int) (g : Gt) : Bool := decide (IntKind.i64.wrap (IntKind.i64.wrap (max day g.ol + d) - 1) ≤ g.sh)
def condC (day d : Int) (g : Gt) : Bool := decide (IntKind.i64.wrap (IntKind.i64.wrap (max day g.oh + d) - 1) ≤ g.sl)
def valM (day : Int) (g : Gt) : Int := max day g.ol
def valC (day : Int) (g : Gt) : Int := max day g.oh
theorem e143 (a b : Int) : evL FN 143 [.list [[I a], [I b]]] = some (I (min (min 100001 a) b)) := by
  refine evL_of (F := F143) rfl ?_
  have w1 : IntKind.i64.wrap 1 = 1 := by decide
  have w2 : IntKind.i64.wrap 2 = 2 := by decide
  simp [F143, Fn.denV, fits, T.denV, denL, E.den, D.den1]
  rw [iterL_eq]
  simp [D.den1, binD, D.idx, partD, mxLD, mxD, minC, outOf, denL, E.den, w1, w2]
  rw [iterL_eq]
  simp [D.den1, binD, D.idx, partD, mxLD, mxD, minC, outOf, denL, E.den, w1, w2]
  rw [iterL_eq]
  simp [D.den1, binD, D.idx, partD, mxLD, mxD, minC, outOf, denL, E.den, denVK, T.denV, w1, w2]
theorem firstN_succ {p : Nat → Bool} : ∀ {n i : Nat}, firstN p (n + 1) i = match firstN p n i with
    | some j => some j
    | none => if p (i + n) then none else some (i + n)
  | 0, i => by simp [firstN]
  | n + 1, i => by
    have ih := firstN_succ (p := p) (n := n) (i := i + 1)
    have e1 : firstN p (n + 1 + 1) i = if p i then firstN p (n + 1) (i + 1) else some i := rfl
    have e2 : firstN p (n + 1) i = if p i then firstN p n (i + 1) else some i := rfl
    rw [e1, e2, ih, show i + 1 + n = i + (n + 1) by omega]
    cases p i <;> simp
/-- What one has behind one gate more. -/
theorem firstG_succ (cond : Gt → Bool) (val : Gt → Int) (gs : List Gt) (n : Nat) (hn : n < gs.length)
    (hv : cond gs[n] = true → val gs[n] ≤ 100001) (hm : ∀ j, j < n → (h : j < gs.length) → cond gs[j] = true → cond gs[n] = true → val gs[j] ≤ val gs[n]) (hle : ∀ j, j < n → (h : j < gs.length) → cond gs[j] = true → val gs[j] ≤ 100001) :
    firstG cond val gs (n + 1) = if cond gs[n] then min (min 100001 (firstG cond val gs n)) (val gs[n]) else firstG cond val gs n := by
  unfold firstG gate
  rw [firstN_succ]
  cases h : firstN (fun i => !(gs[i]?).any cond) n 0 with
  | some j =>
    obtain ⟨-, g2, g3, -⟩ := firstN_some h
    have hj : j < n := by omega
    have hjl : j < gs.length := by omega
    simp only [List.getElem?_eq_getElem hjl, Option.any_some, Bool.not_eq_false'] at g3
    simp only [List.getElem?_eq_getElem hjl, Option.elim_some]
    cases hc : cond gs[n]
    · simp
    · have h1 := hm j hj hjl g3 hc
      have h2 := hle j hj hjl g3
      simp only [if_true]
      omega
  | none =>
    simp only [Nat.zero_add, List.getElem?_eq_getElem hn, Option.any_some]
    cases hc : cond gs[n]
    · simp
    · have h1 := hv hc
      simp [List.getElem?_eq_getElem hn]
      omega
theorem firstG_zero (cond : Gt → Bool) (val : Gt → Int) (gs : List Gt) : firstG cond val gs 0 = 100001 := rfl
theorem wI {x : Int} (h : -9223372036854775808 ≤ x ∧ x ≤ 9223372036854775807) : IntKind.i64.wrap x = x := IntWalk.i64_in _ h
theorem dvd_eq {n k : Int} (hn : 0 ≤ n ∧ n ≤ 1000000000000) (hk : 1 ≤ k ∧ k ≤ 1000000000000) : dvd' n k = (n + k - 1) / k := by
  unfold dvd'
  rw [wI (x := n + k) (by omega), wI (x := n + k - 1) (by omega), Int.tdiv_eq_ediv_of_nonneg (by omega)]
  have h1 : (n + k - 1) / k ≤ n + k - 1 := Int.ediv_le_self _ (by omega)
  have h2 : 0 ≤ (n + k - 1) / k := Int.ediv_nonneg (by omega) (by omega)
  exact wI (by omega)
theorem dvd_bd {n k : Int} (hn : 1 ≤ n ∧ n ≤ 1000000) (hk : 1 ≤ k ∧ k ≤ 100000) : 1 ≤ dvd' n k ∧ dvd' n k ≤ 1100000 := by
  rw [dvd_eq (by omega) (by omega)]
  have h1 : (n + k - 1) / k ≤ n + k - 1 := Int.ediv_le_self _ (by omega)
  have h2 : 1 ≤ (n + k - 1) / k := by rw [Int.le_ediv_iff_mul_le (by omega)]; omega
  omega
/-- What is known of a gate of a valid leg. -/
structure GtOK (g : Gt) : Prop where
  a : 0 ≤ g.ol
  b : g.ol ≤ g.oh
  c : g.oh ≤ 100000
  d : 0 ≤ g.sl
  e : g.sl ≤ g.sh
  f : g.sh ≤ 100000
  g : g.ol ≤ g.sh
theorem gok_at {gs : List Gt} (h : gok gs = true) {i : Nat} (hi : i < gs.length) : GtOK gs[i] ∧ gpv gs i < gs[i].ol := by
  simp only [gok, Bool.and_eq_true, decide_eq_true_eq] at h
  have := allN_iff.1 h.2 i hi
  simp only [gat, List.getElem?_eq_getElem hi, Option.all_some, gstep, inS, Bool.and_eq_true, decide_eq_true_eq] at this
  obtain ⟨⟨⟨⟨⟨a, b⟩, c⟩, ⟨d, e⟩, f⟩, g⟩, k⟩ := this
  exact ⟨⟨a, b, c, d, e, f, g⟩, k⟩
theorem gok_lt {gs : List Gt} (h : gok gs = true) {j : Nat} (hj : j < gs.length) : ∀ n, j < n → (hn : n < gs.length) → gs[j].sh < gs[n].ol
  | 0, h1, _ => by omega
  | n + 1, h1, hn => by
    obtain ⟨g1, g2⟩ := gok_at h hn
    rw [gpv_succ (show n < gs.length by omega)] at g2
    by_cases e : j = n
    · subst e; exact g2
    · have := gok_lt h hj n (by omega) (by omega)
      have g3 := (gok_at h (show n < gs.length by omega)).1.g
      omega
theorem firstM_succ {gs : List Gt} (h : gok gs = true) {day d : Int} (hd : 0 ≤ day ∧ day ≤ 100001) (n : Nat) (hn : n < gs.length) :
    firstG (condM day d) (valM day) gs (n + 1) = if condM day d gs[n] then min (min 100001 (firstG (condM day d) (valM day) gs n)) (valM day gs[n]) else firstG (condM day d) (valM day) gs n := by
  have hv : ∀ j, (hj : j < gs.length) → valM day gs[j] ≤ 100001 := fun j hj => by
    have := (gok_at h hj).1
    have h1 := this.b; have h2 := this.c
    unfold valM; omega
  refine firstG_succ _ _ gs n hn (fun _ => hv n hn) (fun j hj hjl _ _ => ?_) (fun j hj hjl _ => hv j hjl)
  have h1 := gok_lt h hjl n hj hn
  have h2 := (gok_at h hjl).1.g
  unfold valM; omega
theorem firstC_succ {gs : List Gt} (h : gok gs = true) {day d : Int} (hd : 0 ≤ day ∧ day ≤ 100001) (hd' : 1 ≤ d ∧ d ≤ 10000000) (n : Nat) (hn : n < gs.length) :
    firstG (condC day d) (valC day) gs (n + 1) = if condC day d gs[n] then min (min 100001 (firstG (condC day d) (valC day) gs n)) (valC day gs[n]) else firstG (condC day d) (valC day) gs n := by
  have hv : ∀ j, (hj : j < gs.length) → valC day gs[j] ≤ 100001 := fun j hj => by
    have := (gok_at h hj).1
    have h2 := this.c
    unfold valC; omega
  refine firstG_succ _ _ gs n hn (fun _ => hv n hn) (fun j hj hjl hc _ => ?_) (fun j hj hjl _ => hv j hjl)
  have h1 := gok_lt h hjl n hj hn
  have h2 := (gok_at h hjl).1
  have h3 := (gok_at h hn).1.b
  have a1 := h2.a; have a2 := h2.b; have a3 := h2.c; have a4 := h2.e
  simp only [condC, decide_eq_true_eq] at hc
  rw [wI (x := max day gs[j].oh + d) (by omega), wI (x := max day gs[j].oh + d - 1) (by omega)] at hc
  unfold valC; omega
def leaveE (ls : List Lg) (pl ph : Int) (k : Nat) (day day' : Int) : D := match ls[k]? with
  | some l => .node [I (firstG (condM day (dvd' l.lo ph)) (valM day) l.gs l.gs.length), I (firstG (condC day' (dvd' l.hi pl)) (valC day') l.gs l.gs.length)]
  | none => .node []
theorem lg_ok {n : Int} {l : Lg} (h : l.ok n = true) : gok l.gs = true ∧ 1 ≤ l.lo ∧ l.lo ≤ l.hi ∧ l.hi ≤ 1000000 ∧ l.a ≠ l.b ∧ 0 ≤ l.a ∧ l.a < n ∧ 0 ≤ l.b ∧ l.b < n := by
  simp only [Lg.ok, inR, inS, Bool.and_eq_true, decide_eq_true_eq, bne_iff_ne, ne_eq] at h
  obtain ⟨⟨⟨⟨⟨a, b⟩, c, d⟩, e⟩, ⟨f, g⟩, i⟩, j⟩ := h
  exact ⟨j, f, g, i, e, a, by omega, c, by omega⟩
theorem e85 (ws : List Wl) (ls : List Lg) (pl ph w a b day day' : Int) (k : Nat) (hk : k < ls.length) (n : Int) (hlg : ls[k].ok n = true) (hp : inS pl ph 1 100000 = true) (hd : 0 ≤ day ∧ day ≤ 100001) (hd' : 0 ≤ day' ∧ day' ≤ 100001) :
    evL FN 85 [.node (carD ws ls pl ph w a b), I k, .node [I day, I day']] = some (leaveE ls pl ph k day day') := by
  refine evL_of (F := F85) rfl ?_
  obtain ⟨p1, p2, p3⟩ := pace_pos hp
  obtain ⟨l1, l2, l3, l4, -⟩ := lg_ok hlg
  have h67 := e88 ws ls pl ph w a b k hk (by omega) (by omega)
  have h74 := e86 100001
  have hd2 := dvd_bd (n := ls[k].hi) (k := pl) (by omega) (by omega)
  have hgl : ls[k].gs.length ≤ 6 := by simp only [gok, Bool.and_eq_true, decide_eq_true_eq] at l1; exact l1.1
  unfold leaveE
  rw [List.getElem?_eq_getElem hk]
  simp only
  generalize hl : ls[k] = l at *
  have hm := fun i hi => firstM_succ l1 (d := dvd' l.lo ph) hd i hi
  have hc := fun i hi => firstC_succ l1 (d := dvd' l.hi pl) hd' (by omega) i hi
  simp only [carD, wls, lgs, I] at h67 h74 ⊢
  simp [F85, Fn.denV, fits, T.denV, denL, E.den, D.cells, h67, h74, D.den1, D.idx, hk, hl, Lg.d, gts, partD]
  rw [iter_allN l.gs.length (fun _ => true) (fun i => [I i, I (firstG (condM day (dvd' l.lo ph)) (valM day) l.gs i), I (firstG (condC day' (dvd' l.hi pl)) (valC day') l.gs i)]) 1 0 [] [I (firstG (condM day (dvd' l.lo ph)) (valM day) l.gs l.gs.length), I (firstG (condC day' (dvd' l.hi pl)) (valC day') l.gs l.gs.length)] (by simp [firstG_zero])]
  · have : allN (fun _ => true) l.gs.length = true := allN_iff.2 fun _ _ => rfl
    simp [this, denVK, T.denV, E.den, denL]
  · intro i hi _
    have h116a := e143 (firstG (condM day (dvd' l.lo ph)) (valM day) l.gs i) (max day l.gs[i].ol)
    have h116b := e143 (firstG (condC day' (dvd' l.hi pl)) (valC day') l.gs i) (max day' l.gs[i].oh)
    have hm := hm i hi
    have hc := hc i hi
    simp only [condM, valM, condC, valC] at hm hc
    simp [binD, hi, hl, idx_nat hi, Gt.d, mxLD, mxD, maxC, maxC', E.den, denL, T.denV, hm, hc, condM, condC, valM, valC, wrapN (show i < 9223372036854775807 by omega)]
    simp only [I] at h116a h116b
    by_cases c1 : IntKind.i64.wrap (IntKind.i64.wrap (max day l.gs[i].ol + dvd' l.lo ph) - 1) ≤ l.gs[i].sh <;> by_cases c2 : IntKind.i64.wrap (IntKind.i64.wrap (max day' l.gs[i].oh + dvd' l.hi pl) - 1) ≤ l.gs[i].sl <;>
      simp [c1, c2, fillD, outOf, denL, E.den, denVK, T.denV, h116a, h116b, D.flat, D.flat0, D.den1, binD, mxLD, mxD, maxC, maxC', D.cells, wrapN (show i < 9223372036854775807 by omega)]
  · intro _
    simp [D.den1, binD, outOf, denL, E.den, hl]
theorem land_leg {ws : List Wl} {ls : List Lg} (h : landOK ws ls = true) {k : Nat} (hk : k < ls.length) : ls[k].ok ws.length = true := by
  simp only [landOK, Bool.and_eq_true] at h
  exact List.all_eq_true.1 h.2 _ (List.getElem_mem hk)
/-- More than is considered. -/
def greatL (ws : List Wl) (ls : List Lg) : Bool := decide (20 < ws.length) || decide (40 < ls.length) || !ls.all (fun l => decide (l.gs.length ≤ 20))
theorem e73 (ws : List Wl) (ls : List Lg) (hl : ls.length ≤ 9223372036854775807) : evL FN 73 [landD ws ls] = some (.bool (greatL ws ls)) := by
  refine evL_of (F := F73) rfl ?_
  unfold greatL landD
  by_cases h1 : 20 < ws.length
  · have h1' : (20 : Int) < ws.length := by omega
    simp [F73, Fn.denV, fits, T.denV, denL, E.den, D.cells, wls, lgs, D.den1, binD, outOf, denVK, h1, h1']
  have h1' : ¬ (20 : Int) < ws.length := by omega
  by_cases h2 : 40 < ls.length
  · have h2' : (40 : Int) < ls.length := by omega
    simp [F73, Fn.denV, fits, T.denV, denL, E.den, D.cells, wls, lgs, D.den1, binD, outOf, denVK, h1, h1', h2, h2']
  have h2' : ¬ (40 : Int) < ls.length := by omega
  simp [F73, Fn.denV, fits, T.denV, denL, E.den, D.cells, wls, lgs, D.den1, binD, outOf, denVK, h1, h1', h2, h2']
  rw [iter_all (p := fun l : Lg => decide (l.gs.length ≤ 20)) (t := 0) (u := 1) (xs := ls)]
  · cases ls.all (fun l => decide (l.gs.length ≤ 20)) <;> simp [denVK, T.denV, E.den]
  · intro i l hi
    obtain ⟨hlt, rfl⟩ := List.getElem?_eq_some_iff.1 hi
    by_cases h3 : (ls[i]).gs.length ≤ 20
    · have h3' : ¬ (20 : Int) < (ls[i]).gs.length := by omega
      simp [hlt, idx_nat hlt, hi, Lg.d, gts, partD, h3, h3', outOf, denL, E.den, wrapN (show i < 9223372036854775807 by omega)]
    · have h3' : (20 : Int) < (ls[i]).gs.length := by omega
      simp [hlt, idx_nat hlt, hi, Lg.d, gts, partD, h3, h3', outOf, denL, E.den]
  · simp [outOf, denL]
theorem app_new {α : Type} {g : α → List D} {sz bytes : Nat} (xs : List α) (hg : ∀ x, (g x).length = sz) (hc : (xs.length + 1) * (bytes + 1) ≤ 1099511627776) : D.den1 (.app sz bytes) [.list [], .list (xs.map g)] = some (.list (xs.map g)) := by
  simp only [D.den1]
  rw [if_pos ⟨.inr (by simpa using hc), by simp [hg]⟩]
  rfl
theorem shal_int (n : Nat) (x : Int) : D.shal1 n (I x) = true := by cases n <;> rfl
theorem shal_gts (n : Nat) (gs : List Gt) : D.shal1 (n + 1) (gts gs) = true := by
  simp [gts, D.shal1, D.shal0, Gt.d, shal_int]
end Go.Q
