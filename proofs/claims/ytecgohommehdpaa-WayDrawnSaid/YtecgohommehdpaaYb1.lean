/- Great lands; filling; numbers rounded up. -/
import Derived.Test.YtecgohommehdpaaYb0
set_option linter.unusedVariables false
set_option linter.unusedSimpArgs false
set_option maxRecDepth 100000
namespace Go.Q
open Go.V
theorem wI {x : Int} (h : -9223372036854775808 ≤ x ∧ x ≤ 9223372036854775807) : IntKind.i64.wrap x = x := IntWalk.i64_in _ h
theorem dvd_eq {n k : Int} (hn : 0 ≤ n ∧ n ≤ 1000000000000) (hk : 1 ≤ k ∧ k ≤ 1000000000000) : dvd' n k = (n + k - 1) / k := by
  unfold dvd'
  rw [wI (x := n + k) (by omega), wI (x := n + k - 1) (by omega), Int.tdiv_eq_ediv_of_nonneg (by omega)]
  have h1 : (n + k - 1) / k ≤ n + k - 1 := Int.ediv_le_self _ (by omega)
  have h2 : 0 ≤ (n + k - 1) / k := Int.ediv_nonneg (by omega) (by omega)
  exact wI (by omega)
theorem dvd_bd {n k : Int} (hn : 1 ≤ n ∧ n ≤ 1000000) (hk : 1 ≤ k ∧ k ≤ 100000) : 1 ≤ dvd' n k ∧ dvd' n k ≤ 1100000 := by
  rw [dvd_eq (by omega) (by omega)]
  have h1 : (n + k - 1) / k ≤ n + k - 1 := Int.ediv_le_self _ (by omega)
  have h2 : 1 ≤ (n + k - 1) / k := by rw [Int.le_ediv_iff_mul_le (by omega)]; omega
  omega
theorem minC (a b : Int) : (if b < a then b else a) = min a b := by rw [Int.min_def]; split <;> split <;> omega
theorem maxC (a b : Int) : (if b > a then b else a) = max a b := by rw [Int.max_def]; split <;> split <;> omega
theorem maxC' (a b : Int) : (if a < b then b else a) = max a b := by rw [Int.max_def]; split <;> split <;> omega
/-- More than is considered. -/
def greatL (ws : List Wl) (ls : List Lg) : Bool := decide (20 < ws.length) || decide (40 < ls.length) || !ls.all (fun l => decide (l.gs.length ≤ 20))
theorem e15 (ws : List Wl) (ls : List Lg) (hl : ls.length ≤ 9223372036854775807) : evL FN 15 [landD ws ls] = some (.bool (greatL ws ls)) := by
  refine evL_of (F := F15) rfl ?_
  unfold greatL landD
  by_cases h1 : 20 < ws.length
  · have h1' : (20 : Int) < ws.length := by omega
    simp [F15, Fn.denV, fits, T.denV, denL, E.den, D.cells, wls, lgs, D.den1, binD, outOf, denVK, h1, h1']
  have h1' : ¬ (20 : Int) < ws.length := by omega
  by_cases h2 : 40 < ls.length
  · have h2' : (40 : Int) < ls.length := by omega
    simp [F15, Fn.denV, fits, T.denV, denL, E.den, D.cells, wls, lgs, D.den1, binD, outOf, denVK, h1, h1', h2, h2']
  have h2' : ¬ (40 : Int) < ls.length := by omega
  simp [F15, Fn.denV, fits, T.denV, denL, E.den, D.cells, wls, lgs, D.den1, binD, outOf, denVK, h1, h1', h2, h2']
  rw [iter_all (p := fun l : Lg => decide (l.gs.length ≤ 20)) (t := 0) (u := 1) (xs := ls)]
  · cases ls.all (fun l => decide (l.gs.length ≤ 20)) <;> simp [denVK, T.denV, E.den]
  · intro i l hi
    obtain ⟨hlt, rfl⟩ := List.getElem?_eq_some_iff.1 hi
    by_cases h3 : (ls[i]).gs.length ≤ 20
    · have h3' : ¬ (20 : Int) < (ls[i]).gs.length := by omega
      simp [hlt, idx_nat hlt, hi, Lg.d, gts, partD, h3, h3', outOf, denL, E.den, wrapN (show i < 9223372036854775807 by omega)]
    · have h3' : (20 : Int) < (ls[i]).gs.length := by omega
      simp [hlt, idx_nat hlt, hi, Lg.d, gts, partD, h3, h3', outOf, denL, E.den]
  · simp [outOf, denL]
def wlo (w : Wl) (h n : Int) : Int := min w.room (h + n * w.yl)
def whi (w : Wl) (h n : Int) : Int := min w.room (h + n * w.yh)
structure WlOK (w : Wl) : Prop where
  y0 : 0 ≤ w.yl
  y1 : w.yl ≤ w.yh
  y2 : w.yh ≤ 10000000
  r0 : 0 ≤ w.room
  r1 : w.room ≤ 1000000000
  h0 : 0 ≤ w.hl
  h1 : w.hl ≤ w.hh
  h2 : w.hh ≤ w.room
theorem wl_ok {w : Wl} (h : w.ok = true) : WlOK w := by
  simp only [Wl.ok, inR, inS, Bool.and_eq_true, decide_eq_true_eq] at h
  obtain ⟨⟨⟨⟨⟨⟨-, -⟩, -⟩, ⟨a, b⟩, c⟩, d⟩, ⟨e, f⟩, g⟩, -⟩ := h
  exact ⟨a, b, c, d.1, d.2, e, f, g⟩
theorem land_wl {ws : List Wl} {ls : List Lg} (h : landOK ws ls = true) {k : Nat} (hk : k < ws.length) : WlOK ws[k] := by
  simp only [landOK, Bool.and_eq_true] at h
  exact wl_ok (List.all_eq_true.1 h.1.2 _ (List.getElem_mem hk))
theorem mul_bd {n y : Int} (hn : 0 ≤ n ∧ n ≤ 100001) (hy : 0 ≤ y ∧ y ≤ 10000000) : 0 ≤ n * y ∧ n * y ≤ 1000010000000 := by
  refine ⟨Int.mul_nonneg hn.1 hy.1, ?_⟩
  have := Int.mul_le_mul hn.2 hy.2 hy.1 (by decide)
  simpa using this
theorem e96 (w : Wl) (h : WlOK w) (a b n : Int) (hn : 0 ≤ n ∧ n ≤ 100001) (ha : 0 ≤ a ∧ a ≤ 1000000000) (hb : 0 ≤ b ∧ b ≤ 1000000000) :
    evL FN 96 [.node [I w.x, I w.y, I w.dp, I w.yl, I w.yh, I w.room, I a, I b, I w.own], I n] = some (.node [I (wlo w a n), I (whi w b n)]) := by
  refine evL_of (F := F96) rfl ?_
  have y0 := h.y0; have y1 := h.y1; have y2 := h.y2
  have m1 := mul_bd hn (y := w.yl) (by omega)
  have m2 := mul_bd hn (y := w.yh) (by omega)
  have a1 : IntKind.i64.wrap (n * w.yl) = n * w.yl := wI (by omega)
  have a2 : IntKind.i64.wrap (n * w.yh) = n * w.yh := wI (by omega)
  have a3 : IntKind.i64.wrap (a + n * w.yl) = a + n * w.yl := wI (by omega)
  have a4 : IntKind.i64.wrap (b + n * w.yh) = b + n * w.yh := wI (by omega)
  simp [F96, Fn.denV, fits, T.denV, denL, E.den, D.cells, D.den1, binD, mxLD, mxD, minC, a1, a2, a3, a4, wlo, whi]
end Go.Q
