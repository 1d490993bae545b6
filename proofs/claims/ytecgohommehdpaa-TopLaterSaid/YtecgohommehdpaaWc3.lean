/- Way: water. -/
import Derived.Test.YtecgohommehdpaaWc2
set_option linter.unusedVariables false
set_option linter.unusedSimpArgs false
namespace Go.Q
open Go.V
def wlo (w : Wl) (h n : Int) : Int := min w.room (h + n * w.yl)
def whi (w : Wl) (h n : Int) : Int := min w.room (h + n * w.yh)
structure WlOK (w : Wl) : Prop where
  y0 : 0 ≤ w.yl
  y1 : w.yl ≤ w.yh
  y2 : w.yh ≤ 10000000
  r0 : 0 ≤ w.room
  r1 : w.room ≤ 1000000000
  h0 : 0 ≤ w.hl
  h1 : w.hl ≤ w.hh
  h2 : w.hh ≤ w.room
theorem wl_ok {w : Wl} (h : w.ok = true) : WlOK w := by
  simp only [Wl.ok, inR, inS, Bool.and_eq_true, decide_eq_true_eq] at h
  obtain ⟨⟨⟨⟨⟨⟨-, -⟩, -⟩, ⟨a, b⟩, c⟩, d⟩, ⟨e, f⟩, g⟩, -⟩ := h
  exact ⟨a, b, c, d.1, d.2, e, f, g⟩
theorem land_wl {ws : List Wl} {ls : List Lg} (h : landOK ws ls = true) {k : Nat} (hk : k < ws.length) : WlOK ws[k] := by
  simp only [landOK, Bool.and_eq_true] at h
  exact wl_ok (List.all_eq_true.1 h.1.2 _ (List.getElem_mem hk))
theorem mul_bd {n y : Int} (hn : 0 ≤ n ∧ n ≤ 100001) (hy : 0 ≤ y ∧ y ≤ 10000000) : 0 ≤ n * y ∧ n * y ≤ 1000010000000 := by
  refine ⟨Int.mul_nonneg hn.1 hy.1, ?_⟩
  have := Int.mul_le_mul hn.2 hy.2 hy.1 (by decide)
  simpa using this
theorem e96 (w : Wl) (h : WlOK w) (a b n : Int) (hn : 0 ≤ n ∧ n ≤ 100001) (ha : 0 ≤ a ∧ a ≤ 1000000000) (hb : 0 ≤ b ∧ b ≤ 1000000000) :
    evL FN 96 [.node [I w.x, I w.y, I w.dp, I w.yl, I w.yh, I w.room, I a, I b, I w.own], I n] = some (.node [I (wlo w a n), I (whi w b n)]) := by
  refine evL_of (F := F96) rfl ?_
  have y0 := h.y0; have y1 := h.y1; have y2 := h.y2
  have m1 := mul_bd hn (y := w.yl) (by omega)
  have m2 := mul_bd hn (y := w.yh) (by omega)
  have a1 : IntKind.i64.wrap (n * w.yl) = n * w.yl := wI (by omega)
  have a2 : IntKind.i64.wrap (n * w.yh) = n * w.yh := wI (by omega)
  have a3 : IntKind.i64.wrap (a + n * w.yl) = a + n * w.yl := wI (by omega)
  have a4 : IntKind.i64.wrap (b + n * w.yh) = b + n * w.yh := wI (by omega)
  simp [F96, Fn.denV, fits, T.denV, denL, E.den, D.cells, D.den1, binD, mxLD, mxD, minC, a1, a2, a3, a4, wlo, whi]
theorem e95_nil (ws : List Wl) : evL FN 95 [.list [], wls ws] = some (.bool true) := by
  refine evL_of (F := F95) rfl ?_
  simp [F95, Fn.denV, fits, T.denV, denL, E.den, D.den1, wls]
  rw [iterL_eq]
  simp [D.den1, binD, outOf, denL, E.den, denVK, T.denV]
theorem e95_one (ws : List Wl) (k m q : Int) (hw : ws.length ≤ 9223372036854775807) (hk : inR k 0 (ws.length - 1) = true) (hm : inR m 0 100000 = true) (hq : inR q 0 1000000000 = true) : evL FN 95 [.list [[I k, I m, I q]], wls ws] = some (.bool true) := by
  refine evL_of (F := F95) rfl ?_
  have h94 := e94 k ws hw
  have h97 := e97 m 0 100000
  have h97' := e97 q 0 1000000000
  have w1 : IntKind.i64.wrap 1 = 1 := by decide
  rw [hk] at h94; rw [hm] at h97; rw [hq] at h97'
  simp only [wls, I] at h94 h97 h97' ⊢
  simp [F95, Fn.denV, fits, T.denV, denL, E.den, D.den1, I]
  rw [iterL_eq]
  simp [D.den1, binD, unD, D.idx, partD, D.cells, outOf, denL, E.den, denVK, T.denV, h94, h97, h97', w1]
  rw [iterL_eq]
  simp [D.den1, binD, outOf, denL, E.den, denVK, T.denV]
theorem e35_nil (ws : List Wl) (ls : List Lg) (k : Nat) (day : Int) (hw : ws.length ≤ 9223372036854775807) (hl : ls.length ≤ 9223372036854775807) (hb : big ls) (hL : landOK ws ls = true) (hk : k < ws.length) (hd : 0 ≤ day ∧ day ≤ 100000) :
    evL FN 35 [landD ws ls, I k, .list [], I day] = some (.node [.node [I (wlo ws[k] ws[k].hl day), I (whi ws[k] ws[k].hh day)], I 0, I 0]) := by
  refine evL_of (F := F35) rfl ?_
  have h21 := e21 ws ls hw hl hb
  rw [hL, if_pos rfl] at h21
  have h94 := e94 k ws hw
  rw [show inR k 0 (ws.length - 1) = true from inR_iff.2 (by omega)] at h94
  have h72 := e72 day
  rw [show inR day 0 100000 = true from inR_iff.2 hd] at h72
  have h95 := e95_nil ws
  have hO := land_wl hL hk
  have o1 := hO.r0; have o2 := hO.r1; have o3 := hO.h0; have o4 := hO.h1; have o5 := hO.h2
  have h96 := e96 ws[k] hO ws[k].hl ws[k].hh day (by omega) (by omega) (by omega)
  have w1 : IntKind.i64.wrap day = day := wI (by omega)
  simp only [landD, wls, lgs, I] at h21 h94 h72 h95 h96 ⊢
  simp [F35, Fn.denV, fits, T.denV, denL, E.den, D.cells, D.den1, binD, unD, h21, h94, h72, h95, outOf, denVK, hk, idx_nat hk, partD, Wl.d]
  rw [iterL_eq]
  simp [D.den1, binD, outOf, denL, E.den, denVK, T.denV, D.cells, h96, w1]
theorem e35_one (ws : List Wl) (ls : List Lg) (k : Nat) (m q : Int) (hw : ws.length ≤ 9223372036854775807) (hl : ls.length ≤ 9223372036854775807) (hb : big ls) (hL : landOK ws ls = true) (hk : k < ws.length) (hm : 0 ≤ m ∧ m ≤ 99999) (hq : 0 ≤ q ∧ q ≤ whi ws[k] ws[k].hh (m + 1)) :
    evL FN 35 [landD ws ls, I k, .list [[I k, I m, I q]], I (m + 1)] = some (.node [.node [I (wlo ws[k] (max 0 (wlo ws[k] ws[k].hl (m + 1) - q)) 0), I (whi ws[k] (whi ws[k] ws[k].hh (m + 1) - q) 0)], I 0, I 0]) := by
  refine evL_of (F := F35) rfl ?_
  have h21 := e21 ws ls hw hl hb
  rw [hL, if_pos rfl] at h21
  have h94 := e94 k ws hw
  rw [show inR k 0 (ws.length - 1) = true from inR_iff.2 (by omega)] at h94
  have h72 := e72 (m + 1)
  rw [show inR (m + 1) 0 100000 = true from inR_iff.2 (by omega)] at h72
  have hO := land_wl hL hk
  have o1 := hO.r0; have o2 := hO.r1; have o3 := hO.h0; have o4 := hO.h1; have o5 := hO.h2
  have y0 := hO.y0; have y1 := hO.y1; have y2 := hO.y2
  have hq2 : q ≤ 1000000000 := by have := hq.2; unfold whi at this; omega
  have h95 := e95_one ws k m q hw (inR_iff.2 (by omega)) (inR_iff.2 (by omega)) (inR_iff.2 (by omega))
  have h96 := e96 ws[k] hO ws[k].hl ws[k].hh (m + 1) (by omega) (by omega) (by omega)
  have m1 := mul_bd (n := m + 1) (y := ws[k].yl) (by omega) (by omega)
  have m2 := mul_bd (n := m + 1) (y := ws[k].yh) (by omega) (by omega)
  have b1 : 0 ≤ wlo ws[k] ws[k].hl (m + 1) ∧ wlo ws[k] ws[k].hl (m + 1) ≤ 1000000000 := by unfold wlo; omega
  have b2 : whi ws[k] ws[k].hh (m + 1) ≤ 1000000000 := by unfold whi; omega
  have hq3 : ¬ (whi ws[k] ws[k].hh (m + 1) < q) := by omega
  have h96' := e96 ws[k] hO (max 0 (wlo ws[k] ws[k].hl (m + 1) - q)) (whi ws[k] ws[k].hh (m + 1) - q) 0 (by omega) (by omega) (by omega)
  generalize wlo ws[k] ws[k].hl (m + 1) = x at *
  generalize whi ws[k] ws[k].hh (m + 1) = y at *
  have w1 : IntKind.i64.wrap (m + 1) = m + 1 := wI (by omega)
  have w2 : IntKind.i64.wrap (x - q) = x - q := wI (by omega)
  have w3 : IntKind.i64.wrap (y - q) = y - q := wI (by omega)
  have w4 : IntKind.i64.wrap 1 = 1 := by decide
  have w5 : IntKind.i64.wrap 0 = 0 := by decide
  have n1 : ¬ (m + 1 ≤ m) := by omega
  have hmx : max 0 (x - q) = if q < x then x - q else 0 := by split <;> omega
  rw [hmx] at h96' ⊢
  simp only [landD, wls, lgs, I] at h21 h94 h72 h95 h96 h96' ⊢
  simp [F35, Fn.denV, fits, T.denV, denL, E.den, D.cells, D.den1, binD, unD, h21, h94, h72, h95, outOf, denVK, hk, idx_nat hk, partD, Wl.d]
  rw [iterL_eq]
  simp [D.den1, binD, D.idx, partD, outOf, denL, E.den, denVK, T.denV, D.cells, h96, w1, w2, w3, w4, w5, n1, hq3, mxLD, mxD, maxC, maxC']
  rw [iterL_eq]
  simp [D.den1, binD, outOf, denL, E.den, denVK, T.denV, D.cells, h96', w1, w2, w3, w4, w5]
theorem e35_late (ws : List Wl) (ls : List Lg) (k : Nat) (q : Int) (hw : ws.length ≤ 9223372036854775807) (hl : ls.length ≤ 9223372036854775807) (hb : big ls) (hL : landOK ws ls = true) (hk : k < ws.length) (hq : 0 ≤ q ∧ q ≤ 1000000000) :
    evL FN 35 [landD ws ls, I k, .list [[I k, I 100000, I q]], I 100000] = some (.node [.node [I (wlo ws[k] ws[k].hl 100000), I (whi ws[k] ws[k].hh 100000)], I 0, I 0]) := by
  refine evL_of (F := F35) rfl ?_
  have h21 := e21 ws ls hw hl hb
  rw [hL, if_pos rfl] at h21
  have h94 := e94 k ws hw
  rw [show inR k 0 (ws.length - 1) = true from inR_iff.2 (by omega)] at h94
  have h72 := e72 100000
  rw [show inR 100000 0 100000 = true from by decide] at h72
  have h95 := e95_one ws k 100000 q hw (inR_iff.2 (by omega)) (by decide) (inR_iff.2 (by omega))
  have hO := land_wl hL hk
  have o1 := hO.r0; have o2 := hO.r1; have o3 := hO.h0; have o4 := hO.h1; have o5 := hO.h2
  have h96 := e96 ws[k] hO ws[k].hl ws[k].hh 100000 (by omega) (by omega) (by omega)
  have w4 : IntKind.i64.wrap 1 = 1 := by decide
  have w5 : IntKind.i64.wrap 100000 = 100000 := by decide
  simp only [landD, wls, lgs, I] at h21 h94 h72 h95 h96 ⊢
  simp [F35, Fn.denV, fits, T.denV, denL, E.den, D.cells, D.den1, binD, unD, h21, h94, h72, h95, outOf, denVK, hk, idx_nat hk, partD, Wl.d]
  rw [iterL_eq]
  simp [D.den1, binD, D.idx, partD, outOf, denL, E.den, denVK, T.denV, D.cells, w4, w5]
  rw [iterL_eq]
  simp [D.den1, binD, outOf, denL, E.den, denVK, T.denV, D.cells, h96, w4, w5]
end Go.Q
