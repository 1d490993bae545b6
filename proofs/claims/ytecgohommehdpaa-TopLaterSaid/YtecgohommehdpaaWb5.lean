/- Way: Leave, on both sides; lands compared. -/
import Derived.Test.YtecgohommehdpaaWb4
set_option linter.unusedVariables false
set_option linter.unusedSimpArgs false
namespace Go.Q
open Go.V
def leaveR (ws : List Wl) (ls : List Lg) (leg day pl ph : Int) : D :=
  if askE ws ls pl ph = 0 then (if inR leg 0 (ls.length - 1) = true ∧ inR day 0 100000 = true then .node [leaveE ls pl ph leg.toNat day day, I 0] else .node [.node [I 0, I 0], I 2])
  else .node [.node [I 0, I 0], I (askE ws ls pl ph)]
theorem land_leg {ws : List Wl} {ls : List Lg} (h : landOK ws ls = true) {k : Nat} (hk : k < ls.length) : ls[k].ok ws.length = true := by
  simp only [landOK, Bool.and_eq_true] at h
  exact List.all_eq_true.1 h.2 _ (List.getElem_mem hk)
theorem e19 (ws : List Wl) (ls : List Lg) (leg day pl ph : Int) (hw : ws.length ≤ 9223372036854775807) (hl : ls.length ≤ 9223372036854775807) (hb : big ls) :
    evL FN 19 [landD ws ls, I leg, I day, .node [I pl, I ph]] = some (leaveR ws ls leg day pl ph) := by
  refine evL_of (F := F19) rfl ?_
  have h65 := e65 ws ls pl ph hw hl hb
  have h66 := e66 leg ls hl
  have h72 := e72 day
  have h74 := e74 day
  unfold leaveR
  by_cases he : askE ws ls pl ph = 0
  · obtain ⟨q1, q2⟩ := askE_zero.1 he
    rw [if_pos he] at h65 ⊢
    rw [he] at h65
    cases hr : inR leg 0 (ls.length - 1) <;> rw [hr] at h66
    · simp only [landD, wls, lgs, carD, I] at h65 h66 ⊢
      simp [F19, Fn.denV, fits, T.denV, denL, E.den, D.cells, D.den1, binD, unD, h65, h66, outOf, denVK]
    cases hr2 : inR day 0 100000 <;> rw [hr2] at h72
    · simp only [landD, wls, lgs, carD, I] at h65 h66 h72 ⊢
      simp [F19, Fn.denV, fits, T.denV, denL, E.den, D.cells, D.den1, binD, unD, h65, h66, h72, outOf, denVK]
    obtain ⟨r1, r2⟩ := inR_iff.1 hr
    obtain ⟨d1, d2⟩ := inR_iff.1 hr2
    obtain ⟨k, rfl⟩ := Int.eq_ofNat_of_zero_le r1
    have hk : k < ls.length := by omega
    have h73 := e73 ws ls pl ph 0 0 0 day day k hk _ (land_leg q1 hk) q2 ⟨d1, by omega⟩ ⟨d1, by omega⟩
    unfold leaveE at h73 ⊢
    simp only [List.getElem?_eq_getElem hk, Int.toNat_natCast] at h73 ⊢
    have h68 := e68 (firstG (condM day (dvd' ls[k].lo ph)) (valM day) ls[k].gs ls[k].gs.length) (firstG (condC day (dvd' ls[k].hi pl)) (valC day) ls[k].gs ls[k].gs.length)
    generalize firstG (condM day (dvd' ls[k].lo ph)) (valM day) ls[k].gs ls[k].gs.length = x1 at h68 h73 ⊢
    generalize firstG (condC day (dvd' ls[k].hi pl)) (valC day) ls[k].gs ls[k].gs.length = x2 at h68 h73 ⊢
    simp only [landD, wls, lgs, carD, I] at h65 h66 h68 h72 h73 h74 ⊢
    simp [F19, Fn.denV, fits, T.denV, denL, E.den, D.cells, D.den1, binD, unD, h65, h66, h68, h72, h73, h74, outOf, denVK]
  · rw [if_neg he] at h65 ⊢
    simp only [landD, wls, lgs, carD, I] at h65 ⊢
    simp [F19, Fn.denV, fits, T.denV, denL, E.den, D.cells, D.den1, binD, unD, h65, he]
theorem e20 (ws : List Wl) (ls : List Lg) (leg day pl ph : Int) (hw : ws.length ≤ 9223372036854775807) (hl : ls.length ≤ 9223372036854775807) (hb : big ls) :
    evL FN 20 [landD ws ls, I leg, I day, .node [I pl, I ph]] = some (leaveR ws ls leg day pl ph) := by
  refine evL_of (F := F20) rfl ?_
  have h69 := e69 ws ls pl ph hw hl hb
  have h70 := e70 leg 0 (ls.length - 1)
  have h70' := e70 day 0 100000
  have hwn : IntKind.i64.wrap ((ls.length : Int) - 1) = ls.length - 1 := IntWalk.i64_in _ (by omega)
  unfold leaveR
  by_cases he : askE ws ls pl ph = 0
  · obtain ⟨q1, q2⟩ := askE_zero.1 he
    obtain ⟨p1, p2, p3⟩ := pace_pos q2
    rw [if_pos he]
    rw [he] at h69
    cases hr : inR leg 0 (ls.length - 1) <;> rw [hr] at h70
    · simp only [landD, wls, lgs, I] at h69 h70 ⊢
      simp [F20, Fn.denV, fits, T.denV, denL, E.den, D.cells, D.den1, binD, unD, h69, h70, hwn, outOf, denVK]
    cases hr2 : inR day 0 100000 <;> rw [hr2] at h70'
    · simp only [landD, wls, lgs, I] at h69 h70 h70' ⊢
      simp [F20, Fn.denV, fits, T.denV, denL, E.den, D.cells, D.den1, binD, unD, h69, h70, h70', hwn, outOf, denVK]
    obtain ⟨r1, r2⟩ := inR_iff.1 hr
    obtain ⟨k, rfl⟩ := Int.eq_ofNat_of_zero_le r1
    have hk : k < ls.length := by omega
    have hgl : ls[k].gs.length ≤ 9223372036854775807 := hb _ (List.getElem_mem hk)
    have h75 := e75 ls[k] day pl ph (by omega) (by omega) hgl
    have h76 := e76 ls[k] day pl ph (by omega) (by omega) hgl
    unfold leaveE
    simp only [List.getElem?_eq_getElem hk, Int.toNat_natCast]
    simp only [landD, wls, lgs, Lg.d, gts, I] at h69 h70 h70' h75 h76 ⊢
    simp [F20, Fn.denV, fits, T.denV, denL, E.den, D.cells, D.den1, binD, unD, h69, h70, h70', h75, h76, hwn, hk, D.idx, Lg.d, gts, partD, outOf, denVK]
  · rw [if_neg he]
    simp only [landD, wls, lgs, I] at h69 ⊢
    simp [F20, Fn.denV, fits, T.denV, denL, E.den, D.cells, D.den1, binD, unD, h69, he]
/-- More than is considered. -/
def greatL (ws : List Wl) (ls : List Lg) : Bool := decide (20 < ws.length) || decide (40 < ls.length) || !ls.all (fun l => decide (l.gs.length ≤ 20))
theorem e15 (ws : List Wl) (ls : List Lg) (hl : ls.length ≤ 9223372036854775807) : evL FN 15 [landD ws ls] = some (.bool (greatL ws ls)) := by
  refine evL_of (F := F15) rfl ?_
  unfold greatL landD
  by_cases h1 : 20 < ws.length
  · have h1' : (20 : Int) < ws.length := by omega
    simp [F15, Fn.denV, fits, T.denV, denL, E.den, D.cells, wls, lgs, D.den1, binD, outOf, denVK, h1, h1']
  have h1' : ¬ (20 : Int) < ws.length := by omega
  by_cases h2 : 40 < ls.length
  · have h2' : (40 : Int) < ls.length := by omega
    simp [F15, Fn.denV, fits, T.denV, denL, E.den, D.cells, wls, lgs, D.den1, binD, outOf, denVK, h1, h1', h2, h2']
  have h2' : ¬ (40 : Int) < ls.length := by omega
  simp [F15, Fn.denV, fits, T.denV, denL, E.den, D.cells, wls, lgs, D.den1, binD, outOf, denVK, h1, h1', h2, h2']
  rw [iter_all (p := fun l : Lg => decide (l.gs.length ≤ 20)) (t := 0) (u := 1) (xs := ls)]
  · cases ls.all (fun l => decide (l.gs.length ≤ 20)) <;> simp [denVK, T.denV, E.den]
  · intro i l hi
    obtain ⟨hlt, rfl⟩ := List.getElem?_eq_some_iff.1 hi
    by_cases h3 : (ls[i]).gs.length ≤ 20
    · have h3' : ¬ (20 : Int) < (ls[i]).gs.length := by omega
      simp [hlt, idx_nat hlt, hi, Lg.d, gts, partD, h3, h3', outOf, denL, E.den, wrapN (show i < 9223372036854775807 by omega)]
    · have h3' : (20 : Int) < (ls[i]).gs.length := by omega
      simp [hlt, idx_nat hlt, hi, Lg.d, gts, partD, h3, h3', outOf, denL, E.den]
  · simp [outOf, denL]
/-- Lands that are the same, compared. -/
theorem e23 (ws : List Wl) (ls : List Lg) (hw : ws.length ≤ 9223372036854775807) (hl : ls.length ≤ 9223372036854775807) (hb : big ls) : evL FN 23 [landD ws ls, landD ws ls] = some (.bool true) := by
  refine evL_of (F := F23) rfl ?_
  unfold landD
  simp [F23, Fn.denV, fits, T.denV, denL, E.den, D.cells, wls, lgs, D.den1, binD, outOf, denVK]
  rw [iter_all (p := fun _ : Wl => true) (t := 0) (u := 1) (xs := ws)]
  rotate_left
  · intro i w hi
    obtain ⟨hlt, rfl⟩ := List.getElem?_eq_some_iff.1 hi
    simp [hlt, idx_nat hlt, hi, Wl.d, partD, outOf, denL, E.den, D.cells, eqDL, eqD1, wrapN (show i < 9223372036854775807 by omega)]
  · simp [outOf, denL]
  simp [denVK, T.denV, E.den, D.cells, denL, D.den1, binD]
  rw [iter_all (p := fun _ : Lg => true) (t := 0) (u := 1) (xs := ls)]
  · simp [denVK, T.denV, E.den]
  · intro i l hi
    obtain ⟨hlt, rfl⟩ := List.getElem?_eq_some_iff.1 hi
    have hg : (ls[i]).gs.length ≤ 9223372036854775807 := hb _ (List.getElem_mem hlt)
    simp [hlt, idx_nat hlt, hi, Lg.d, gts, partD, outOf, denL, E.den, D.cells, eqDL, eqD1, denVK, T.denV, D.den1, binD]
    generalize (ls[i]).gs = gs at hg ⊢
    rw [iter_all (p := fun _ : Gt => true) (t := 0) (u := 1) (xs := gs)]
    · simp [denVK, T.denV, E.den, denL, outOf, D.den1, binD, wrapN (show i < 9223372036854775807 by omega)]
    · intro k g hk
      obtain ⟨hlt', rfl⟩ := List.getElem?_eq_some_iff.1 hk
      simp [hlt', idx_nat hlt', hk, Gt.d, partD, outOf, denL, E.den, D.cells, eqDL, eqD1, wrapN (show k < 9223372036854775807 by omega)]
    · simp [outOf, denL]
  · simp [outOf, denL]
end Go.Q
