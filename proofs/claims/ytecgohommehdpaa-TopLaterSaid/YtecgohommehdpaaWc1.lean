/- Way: stops of a way. -/
import Derived.Test.YtecgohommehdpaaWc0
set_option linter.unusedVariables false
set_option linter.unusedSimpArgs false
namespace Go.Q
open Go.V
/-- The other end of a leg. -/
def acr (l : Lg) (w : Int) : Option Int := if w = l.a then some l.b else if w = l.b then some l.a else none
def acrD : Option Int → D
  | some o => .node [I o, .bool true]
  | none => .node [I 0, .bool false]
theorem e122 (l : Lg) (w : Int) : evL FN 122 [.node l.d, I w] = some (acrD (acr l w)) := by
  refine evL_of (F := F122) rfl ?_
  unfold acr
  by_cases h1 : w = l.a
  · simp [F122, Fn.denV, fits, T.denV, denL, E.den, D.cells, Lg.d, gts, D.den1, binD, h1, outOf, denVK, acrD]
  by_cases h2 : w = l.b
  · subst h2
    simp [F122, Fn.denV, fits, T.denV, denL, E.den, D.cells, Lg.d, gts, D.den1, binD, h1, outOf, denVK, acrD]
  · simp [F122, Fn.denV, fits, T.denV, denL, E.den, D.cells, Lg.d, gts, D.den1, binD, h1, h2, outOf, denVK, acrD]
/-- Where one is behind a leg, if one can take it. -/
def stepW (ls : List Lg) (w k : Int) : Option Int := if inR k 0 (ls.length - 1) then (ls[k.toNat]?).bind (acr · w) else none
def wAt (ls : List Lg) (w0 : Int) (ks : List Int) : Nat → Int
  | 0 => w0
  | n + 1 => ((ks[n]?).bind (stepW ls (wAt ls w0 ks n))).getD 0
def okW (ls : List Lg) (w0 : Int) (ks : List Int) (i : Nat) : Bool := ((ks[i]?).bind (stepW ls (wAt ls w0 ks i))).isSome
def brkD (ls : List Lg) (w0 : Int) (ks : List Int) : D := match firstN (okW ls w0 ks) ks.length 0 with
  | some i => .node [I i, .bool true]
  | none => .node [I 0, .bool false]
def ints (ks : List Int) : D := .list (ks.map fun n => [I n])
theorem e90 (ws : List Wl) (ls : List Lg) (pl ph w a b : Int) (ks : List Int) (hl : ls.length ≤ 9223372036854775807) (hk : ks.length ≤ 24) :
    evL FN 90 [.node (carD ws ls pl ph w a b), ints ks] = some (brkD ls w ks) := by
  refine evL_of (F := F90) rfl ?_
  simp [F90, Fn.denV, fits, T.denV, denL, E.den, D.cells, carD, ints, wls, lgs, D.den1]
  rw [iter_nat ks.length (okW ls w ks) (fun i => [I (wAt ls w ks i), I i]) 0 1 (fun i => [I i]) [] (by simp [wAt])]
  · unfold brkD
    cases firstN (okW ls w ks) ks.length 0 <;> simp [denVK, T.denV, E.den, denL, I]
  · intro i hi _
    have h66 := e66 ks[i] ls hl
    have hs : wAt ls w ks (i + 1) = (stepW ls (wAt ls w ks i) ks[i]).getD 0 := by simp [wAt, List.getElem?_eq_getElem hi]
    have ho : okW ls w ks i = (stepW ls (wAt ls w ks i) ks[i]).isSome := by simp [okW, List.getElem?_eq_getElem hi]
    simp only [lgs, I] at h66
    rw [ho, hs]
    generalize wAt ls w ks i = x
    cases hr : inR ks[i] 0 (ls.length - 1) <;> rw [hr] at h66
    · simp [hi, idx_nat hi, partD, h66, unD, outOf, denL, E.den, binD, denVK, T.denV, D.den1, stepW, hr]
    · obtain ⟨r1, r2⟩ := inR_iff.1 hr
      obtain ⟨k, hk'⟩ := Int.eq_ofNat_of_zero_le r1
      have hkl : k < ls.length := by omega
      have h122 := e122 ls[k] x
      have hst : stepW ls x ks[i] = acr ls[k] x := by rw [hk'] at hr ⊢; simp [stepW, hr, List.getElem?_eq_getElem hkl]
      rw [hst]
      rw [hk'] at h66
      simp only [Lg.d, gts, I] at h122
      simp [hi, idx_nat hi, partD, hk', h66, unD, binD, D.den1, hkl, idx_nat hkl, Lg.d, gts, E.den, denL, T.denV, D.cells, h122, I]
      cases acr ls[k] x <;> simp [acrD, D.cells, outOf, denL, E.den, denVK, T.denV, D.den1, binD, wrapN (show i < 9223372036854775807 by omega), I]
  · intro _
    simp [binD, outOf, denL]
theorem e116o (a : Int) : evL FN 116 [.list [[I a]]] = some (I (min 100001 a)) := by
  refine evL_of (F := F116) rfl ?_
  have w1 : IntKind.i64.wrap 1 = 1 := by decide
  simp [F116, Fn.denV, fits, T.denV, denL, E.den, D.den1]
  rw [iterL_eq]
  simp [D.den1, binD, D.idx, partD, mxLD, mxD, minC, outOf, denL, E.den, w1]
  rw [iterL_eq]
  simp [D.den1, binD, D.idx, partD, mxLD, mxD, minC, outOf, denL, E.den, denVK, T.denV, w1]
def arr (x d : Int) : Int := min 100001 (IntKind.i64.wrap (x + d))
theorem e123 (ws : List Wl) (ls : List Lg) (pl ph w a b : Int) (k : Nat) (hk : k < ls.length) (h1 : pl ≠ 0) (h2 : ph ≠ 0) (x y : Int) :
    evL FN 123 [.node (carD ws ls pl ph w a b), I k, .node [I x, I y]] = some (.node [I (arr x (dvd' ls[k].lo ph)), I (arr y (dvd' ls[k].hi pl))]) := by
  refine evL_of (F := F123) rfl ?_
  have h67 := e67 ws ls pl ph w a b k hk h1 h2
  have ha := e116o (IntKind.i64.wrap (x + dvd' ls[k].lo ph))
  have hb := e116o (IntKind.i64.wrap (y + dvd' ls[k].hi pl))
  simp only [carD, wls, lgs, I] at h67 ha hb ⊢
  simp [F123, Fn.denV, fits, T.denV, denL, E.den, D.cells, h67, D.den1, binD, fillD, ha, hb, arr, D.flat, D.flat0]
/-- The stop of a leg. -/
def stop (l : Lg) (k w a b pl ph : Int) : Sp where
  leg := k
  well := (acr l w).getD 0
  ll := firstG (condM a (dvd' l.lo ph)) (valM a) l.gs l.gs.length
  lh := firstG (condC b (dvd' l.hi pl)) (valC b) l.gs l.gs.length
  al := arr (firstG (condM a (dvd' l.lo ph)) (valM a) l.gs l.gs.length) (dvd' l.lo ph)
  ah := arr (firstG (condC b (dvd' l.hi pl)) (valC b) l.gs l.gs.length) (dvd' l.hi pl)
def leB (x : Int) : Bool := decide (x ≤ 100000)
theorem acrD_0 (o : Option Int) : (acrD o) = .node [I (o.getD 0), .bool o.isSome] := by cases o <;> rfl
theorem e91 (ws : List Wl) (ls : List Lg) (pl ph w a b : Int) (k : Nat) (hk : k < ls.length) (n : Int) (hlg : ls[k].ok n = true) (hp : inS pl ph 1 100000 = true) (ha : 0 ≤ a ∧ a ≤ 100001) (hb : 0 ≤ b ∧ b ≤ 100001) :
    evL FN 91 [.node (carD ws ls pl ph w a b), I k] = some (.node [.node (stop ls[k] k w a b pl ph).d, .bool (leB (stop ls[k] k w a b pl ph).ah)]) := by
  refine evL_of (F := F91) rfl ?_
  obtain ⟨p1, p2, p3⟩ := pace_pos hp
  have h122 := e122 ls[k] w
  rw [acrD_0] at h122
  have h73 := e73 ws ls pl ph w a b a b k hk n hlg hp ha hb
  unfold leaveE at h73
  simp only [List.getElem?_eq_getElem hk] at h73
  have h123 := e123 ws ls pl ph w a b k hk (by omega) (by omega) (stop ls[k] k w a b pl ph).ll (stop ls[k] k w a b pl ph).lh
  have h68 := e68
  simp only [stop] at h123 ⊢
  generalize firstG (condM a (dvd' ls[k].lo ph)) (valM a) ls[k].gs ls[k].gs.length = x1 at *
  generalize firstG (condC b (dvd' ls[k].hi pl)) (valC b) ls[k].gs ls[k].gs.length = x2 at *
  generalize arr x1 (dvd' ls[k].lo ph) = y1 at *
  generalize arr x2 (dvd' ls[k].hi pl) = y2 at *
  simp only [carD, wls, lgs, Lg.d, gts, I] at h122 h73 h123 h68 ⊢
  simp [F91, Fn.denV, fits, T.denV, denL, E.den, D.cells, D.den1, binD, D.idx, hk, Lg.d, gts, partD, h122, h73, h123, h68, Sp.d, leB]
theorem e93 (ws : List Wl) (ls : List Lg) (pl ph w a b : Int) (s : Sp) : evL FN 93 [.node (carD ws ls pl ph w a b), .node s.d] = some (.node (carD ws ls pl ph s.well s.al s.ah)) := by
  refine evL_of (F := F93) rfl ?_
  simp [F93, Fn.denV, fits, T.denV, denL, E.den, D.cells, carD, Sp.d, wls, lgs]
def workE (ws : List Wl) (ls : List Lg) (w day pl ph : Int) : Int := if askE ws ls pl ph = 0 then (if inR w 0 (ws.length - 1) && inR day 0 100000 then 0 else 2) else askE ws ls pl ph
theorem e89 (ws : List Wl) (ls : List Lg) (w day pl ph : Int) (hw : ws.length ≤ 9223372036854775807) (hl : ls.length ≤ 9223372036854775807) (hb : big ls) :
    evL FN 89 [landD ws ls, I w, I day, .node [I pl, I ph]] = some (.node [.node (if workE ws ls w day pl ph = 0 then carD ws ls pl ph w day day else carD [] [] 0 0 0 0 0), I (workE ws ls w day pl ph)]) := by
  refine evL_of (F := F89) rfl ?_
  have h65 := e65 ws ls pl ph hw hl hb
  have h94 := e94 w ws hw
  have h72 := e72 day
  have h74 := e74 day
  unfold workE
  by_cases he : askE ws ls pl ph = 0
  · rw [if_pos he] at h65 ⊢
    rw [he] at h65
    cases hr : inR w 0 (ws.length - 1) <;> rw [hr] at h94
    · simp only [landD, wls, lgs, carD, I] at h65 h94 ⊢
      simp [F89, Fn.denV, fits, T.denV, denL, E.den, D.cells, D.den1, binD, unD, h65, h94, outOf, denVK, wls, lgs]
    cases hr2 : inR day 0 100000 <;> rw [hr2] at h72 <;>
    · simp only [landD, wls, lgs, carD, I] at h65 h94 h72 h74 ⊢
      simp [F89, Fn.denV, fits, T.denV, denL, E.den, D.cells, D.den1, binD, unD, h65, h94, h72, h74, outOf, denVK, wls, lgs]
  · rw [if_neg he] at h65 ⊢
    simp only [landD, wls, lgs, carD, I] at h65 ⊢
    simp [F89, Fn.denV, fits, T.denV, denL, E.den, D.cells, D.den1, binD, unD, h65, he, carD, wls, lgs]
end Go.Q
