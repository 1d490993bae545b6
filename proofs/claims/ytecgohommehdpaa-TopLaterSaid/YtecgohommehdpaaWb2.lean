/- Way: days of legs; when one may leave, and can. -/
import Derived.Test.YtecgohommehdpaaWb1
set_option linter.unusedVariables false
set_option linter.unusedSimpArgs false
namespace Go.Q
open Go.V
theorem e67 (ws : List Wl) (ls : List Lg) (pl ph w a b : Int) (k : Nat) (hk : k < ls.length) (h1 : pl ≠ 0) (h2 : ph ≠ 0) : evL FN 67 [.node (carD ws ls pl ph w a b), I k] = some (.node [I (dvd' ls[k].lo ph), I (dvd' ls[k].hi pl)]) := by
  refine evL_of (F := F67) rfl ?_
  have ha := e98 ls[k].lo ph h2
  have hb := e98 ls[k].hi pl h1
  simp [F67, Fn.denV, fits, T.denV, denL, E.den, D.cells, carD, wls, lgs, D.den1, idx_nat, hk, Lg.d, gts, partD, ha, hb]
theorem e71 (l : Lg) (pl ph : Int) (h1 : pl ≠ 0) (h2 : ph ≠ 0) : evL FN 71 [.node l.d, .node [I pl, I ph]] = some (.node [I (dvd' l.lo ph), I (dvd' l.hi pl)]) := by
  refine evL_of (F := F71) rfl ?_
  simp [F71, Fn.denV, fits, T.denV, denL, E.den, D.cells, Lg.d, gts, D.den1, binD, h1, h2, dvd']
theorem askE_zero {ws : List Wl} {ls : List Lg} {pl ph : Int} : askE ws ls pl ph = 0 ↔ landOK ws ls = true ∧ inS pl ph 1 100000 = true := by
  unfold askE
  cases landOK ws ls <;> cases inS pl ph 1 100000 <;> simp
theorem pace_pos {pl ph : Int} (h : inS pl ph 1 100000 = true) : 1 ≤ pl ∧ pl ≤ ph ∧ ph ≤ 100000 := by
  simp only [inS, Bool.and_eq_true, decide_eq_true_eq] at h; exact ⟨h.1.1, h.1.2, h.2⟩
def daysR (ws : List Wl) (ls : List Lg) (leg pl ph : Int) : D :=
  if askE ws ls pl ph = 0 then match (if inR leg 0 (ls.length - 1) then ls[leg.toNat]? else none) with
    | some l => .node [.node [I (dvd' l.lo ph), I (dvd' l.hi pl)], I 0]
    | none => .node [.node [I 0, I 0], I 2]
  else .node [.node [I 0, I 0], I (askE ws ls pl ph)]
theorem e17 (ws : List Wl) (ls : List Lg) (leg pl ph : Int) (hw : ws.length ≤ 9223372036854775807) (hl : ls.length ≤ 9223372036854775807) (hb : big ls) :
    evL FN 17 [landD ws ls, I leg, .node [I pl, I ph]] = some (daysR ws ls leg pl ph) := by
  refine evL_of (F := F17) rfl ?_
  have h65 := e65 ws ls pl ph hw hl hb
  have h66 := e66 leg ls hl
  unfold daysR
  by_cases he : askE ws ls pl ph = 0
  · obtain ⟨q1, q2⟩ := askE_zero.1 he
    obtain ⟨p1, p2, p3⟩ := pace_pos q2
    rw [if_pos he] at h65 ⊢
    rw [he] at h65
    cases hr : inR leg 0 (ls.length - 1) <;> rw [hr] at h66
    · simp only [landD, wls, lgs, carD, I] at h65 h66 ⊢
      simp [F17, Fn.denV, fits, T.denV, denL, E.den, D.cells, D.den1, binD, unD, h65, h66]
    · obtain ⟨r1, r2⟩ := inR_iff.1 hr
      obtain ⟨k, rfl⟩ := Int.eq_ofNat_of_zero_le r1
      have hk : k < ls.length := by omega
      have h67 := e67 ws ls pl ph 0 0 0 k hk (by omega) (by omega)
      have h68 := e68 (dvd' ls[k].lo ph) (dvd' ls[k].hi pl)
      simp only [landD, wls, lgs, carD, I] at h65 h66 h67 h68 ⊢
      simp [F17, Fn.denV, fits, T.denV, denL, E.den, D.cells, D.den1, binD, unD, h65, h66, h67, h68, hk]
  · rw [if_neg he] at h65 ⊢
    simp only [landD, wls, lgs, carD, I] at h65 ⊢
    simp [F17, Fn.denV, fits, T.denV, denL, E.den, D.cells, D.den1, binD, unD, h65, he]
theorem e18 (ws : List Wl) (ls : List Lg) (leg pl ph : Int) (hw : ws.length ≤ 9223372036854775807) (hl : ls.length ≤ 9223372036854775807) (hb : big ls) :
    evL FN 18 [landD ws ls, I leg, .node [I pl, I ph]] = some (daysR ws ls leg pl ph) := by
  refine evL_of (F := F18) rfl ?_
  have h69 := e69 ws ls pl ph hw hl hb
  have h70 := e70 leg 0 (ls.length - 1)
  have hwn : IntKind.i64.wrap ((ls.length : Int) - 1) = ls.length - 1 := IntWalk.i64_in _ (by omega)
  unfold daysR
  by_cases he : askE ws ls pl ph = 0
  · obtain ⟨q1, q2⟩ := askE_zero.1 he
    obtain ⟨p1, p2, p3⟩ := pace_pos q2
    rw [if_pos he]
    rw [he] at h69
    cases hr : inR leg 0 (ls.length - 1) <;> rw [hr] at h70
    · simp only [landD, wls, lgs, I] at h69 h70 ⊢
      simp [F18, Fn.denV, fits, T.denV, denL, E.den, D.cells, D.den1, binD, unD, h69, h70, hwn]
    · obtain ⟨r1, r2⟩ := inR_iff.1 hr
      obtain ⟨k, rfl⟩ := Int.eq_ofNat_of_zero_le r1
      have hk : k < ls.length := by omega
      have h71 := e71 ls[k] pl ph (by omega) (by omega)
      simp only [landD, wls, lgs, Lg.d, gts, I] at h69 h70 h71 ⊢
      simp [F18, Fn.denV, fits, T.denV, denL, E.den, D.cells, D.den1, binD, unD, h69, h70, h71, hwn, hk, D.idx, Lg.d, gts, partD]
  · rw [if_neg he]
    simp only [landD, wls, lgs, I] at h69 ⊢
    simp [F18, Fn.denV, fits, T.denV, denL, E.den, D.cells, D.den1, binD, unD, h69, he]
end Go.Q
