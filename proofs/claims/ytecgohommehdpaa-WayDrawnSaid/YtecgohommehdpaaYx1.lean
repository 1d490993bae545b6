/- Draws more, later days, lifting in parts: the law. -/
import Derived.Test.YtecgohommehdpaaYx0
set_option linter.unusedVariables false
set_option linter.unusedSimpArgs false
set_option maxRecDepth 100000
namespace Go.Q
open Go.V
theorem e24 : evL FN 24 [] = some (.bool true) := by
  refine evL_of (F := F24) rfl ?_
  simp [F24, Fn.denV, fits, T.denV, denL, E.den]
theorem e36 (a b : Int) : evL FN 36 [I a, I b] = some (.node [I a, I b]) := by
  refine evL_of (F := F36) rfl ?_
  simp [F36, Fn.denV, fits, T.denV, denVK, denL, E.den]
def late (ds : List Dw) (day : Int) : Bool := decide (0 < ds.length) && ((ds[ds.length - 1]?).map (fun x => decide (day ≤ x.m))).getD false
theorem late_false {n : Int} {ds : List Dw} {day : Int} (hD : drOK n ds = true) (h : late ds day = false) {i : Nat} (hi : i < ds.length) : ds[i].m < day := by
  have h0 : 0 < ds.length := by omega
  have hl : ds.length - 1 < ds.length := by omega
  simp only [late, h0, decide_true, Bool.true_and, List.getElem?_eq_getElem hl, Option.map_some, Option.getD_some, decide_eq_false_iff_not] at h
  have := dr_le hD hi (ds.length - 1) (by omega) hl
  omega
def ask8 (ds : List Dw) (day e : Int) : Bool := decide (e = 0) && decide (ds.length < 200) && !late ds day && decide (0 < day)
theorem c8_ok (ds : List Dw) (day e : Int) (hds : ds.length ≤ 200) (x0 x1 x4 x5 x6 x7 x8 x9 x10 y0 y1 x12 : D) :
    outOf [([E.v 18], 0), ([E.v 23], 0), ([E.c (.bool false)], 0), ([E.c (.bool false)], 0), ([E.c (.bool false)], 0)] (T.denV (evL FN) [x0, x1, .list (ds.map Dw.d), I day, x4, x5, x6, x7, x8, x9, x10, .node [y0, y1, I e], x12] c8) = some (0, [.bool (ask8 ds day e)]) := by
  unfold ask8
  by_cases g0 : e = 0
  rotate_left
  · simp [c8, g0, T.denV, denL, E.den, D.den1, binD, D.cells, outOf]
  by_cases g1 : ds.length < 200
  rotate_left
  · have g1' : ¬ (ds.length : Int) < 200 := by omega
    simp [c8, g0, g1, g1', T.denV, denL, E.den, D.den1, binD, D.cells, outOf]
  have g1' : (ds.length : Int) < 200 := by omega
  unfold late
  cases hn : ds.length with
  | zero => simp [c8, g0, hn, T.denV, denL, E.den, D.den1, binD, D.cells, outOf]
  | succ n =>
    have g2 : ¬ (n : Int) + 1 = 0 := by omega
    have hlt : n < ds.length := by omega
    have hgt : ds[n]? = some ds[n] := List.getElem?_eq_getElem hlt
    have w1 : IntKind.i64.wrap ((n : Int) + 1 - 1) = n := by rw [show (n : Int) + 1 - 1 = n from by omega]; exact wI (by omega)
    have w1' : IntKind.i64.wrap (n : Int) = n := wI (by omega)
    have hii : D.idx (.int .i64 (n : Int)) (n + 1) = some n := idx_nat (by omega)
    have g1a : n + 1 < 200 := by omega
    have g1b : (n : Int) + 1 < 200 := by omega
    by_cases g3 : ds[n].m < day
    · have g3' : ¬ day ≤ ds[n].m := by omega
      simp [c8, g0, g1a, g1b, g2, g3, g3', hn, w1, w1', hii, hgt, Dw.d, partD, T.denV, denL, E.den, D.den1, binD, D.cells, outOf]
    · have g3' : day ≤ ds[n].m := by omega
      simp [c8, g0, g1a, g1b, g2, g3, g3', hn, w1, w1', hii, hgt, Dw.d, partD, T.denV, denL, E.den, D.den1, binD, D.cells, outOf]
theorem w8_ok (ws : List Wl) (ls : List Lg) (k : Nat) (ds : List Dw) (day mo : Int) (hw : ws.length ≤ 9223372036854775807) (hl : ls.length ≤ 9223372036854775807) (hb : big ls) (hL : landOK ws ls = true) (hk : k < ws.length) (hday : 0 ≤ day ∧ day ≤ 100000) (hmo : 0 ≤ mo ∧ mo ≤ 65535)
    (hx : ds.length ≤ 200) (hD : drOK ws.length ds = true) (hf : firstN (wgo ws[k] k day ds) ds.length 0 = none) (hq : ask8 ds day 0 = true) (x5 x6 x7 x8 x9 x10 x12 x13 : D) :
    ∃ ρ, T.denV (evL FN) [.node [.list (ws.map Wl.d), .list (ls.map Lg.d)], I k, .list (ds.map Dw.d), I day, .int .u16 mo, x5, x6, x7, x8, x9, x10, watD ws[k] k day ds, x12, x13] w8a = some (2, ρ) := by
  simp only [ask8, decide_true, Bool.true_and, Bool.and_eq_true, decide_eq_true_eq, Bool.not_eq_true'] at hq
  obtain ⟨⟨q1, q2⟩, q3⟩ := hq
  have hlast := fun i hi => late_false (i := i) hD q2 hi
  have hO := land_wl hL hk
  have r0 := hO.r0; have r1 := hO.r1; have y0 := hO.y0; have y1 := hO.y1; have y2 := hO.y2
  have hall2 := firstN_none.1 hf
  have hv := w_inv (k := k) hO hD hday ds.length (Nat.le_refl _) (fun j hj => hall2 j (by omega) (by omega))
  have v1 := hv.t0; have v2 := hv.td; have v3 := hv.lo; have v4 := hv.hi
  have hfb := fill_bd hO v3 v4 (n := day - (wst ws[k] k day ds ds.length).t) (by omega)
  have hmore := more2 ws[k] hO k day ds mo hD (by omega) hf hmo.1
  have h35 := e35 ws ls k (ds ++ [(⟨k, day - 1, mo⟩ : Dw)]) day hw hl hb hL hk hday (by rw [List.length_append, List.length_singleton]; omega)
    (dr_app hD ⟨inR_iff.2 (by dsimp only; omega), inR_iff.2 (by dsimp only; omega), inR_iff.2 (by dsimp only; omega)⟩ (fun i hi => by have := hlast i hi; dsimp only; omega))
  have hlat := fun h => later ws[k] hO k (n := ws.length) day ds hD h hf (fun i hi => hlast i hi)
  have h35' := fun h => e35 ws ls k ds (day + 1) hw hl hb hL hk h (by omega) hD
  rw [hmore] at h35
  simp only [watD, hf]
  generalize wlo ws[k] (wst ws[k] k day ds ds.length).lo (day - (wst ws[k] k day ds ds.length).t) = a at *
  generalize whi ws[k] (wst ws[k] k day ds ds.length).hi (day - (wst ws[k] k day ds ds.length).t) = z at *
  have a1 := app25 [] ds (by simp; omega)
  have a2 := app25 ds [(⟨k, day - 1, mo⟩ : Dw)] (by simp; omega)
  have w1 : IntKind.i64.wrap (day - 1) = day - 1 := wI (by omega)
  have wm : IntKind.i64.wrap mo = mo := wI (by omega)
  have w2 : IntKind.i64.wrap (z - mo) = z - mo := wI (by omega)
  have w3 : IntKind.i64.wrap (a - mo) = a - mo := wI (by omega)
  have hmx : (if mo < a then a - mo else 0) = max 0 (a - mo) := by split <;> omega
  have hmx' : (if 0 < a - mo then a - mo else 0) = max 0 (a - mo) := by split <;> omega
  rw [w8a]
  rw [denV_op (d := dws ds) (by simpa [denL, E.den, dws] using a1)]
  rw [denV_op (d := I (day - 1)) (by simp [denL, E.den, D.den1, binD, w1])]
  rw [denV_op (d := I mo) (by simp [denL, E.den, D.den1, wm])]
  rw [denV_op (d := dws [(⟨k, day - 1, mo⟩ : Dw)]) (by simp [denL, E.den, D.den1, fillD, dws, Dw.d, D.flat, D.flat0])]
  rw [denV_op (d := dws (ds ++ [(⟨k, day - 1, mo⟩ : Dw)])) (by simpa [denL, E.den] using a2)]
  have hgt : ws[k]? = some ws[k] := List.getElem?_eq_getElem hk
  have hii : D.idx (.int .i64 (k : Int)) ws.length = some k := idx_nat hk
  have fin : ∀ X : List D, (∃ ρ, T.denV (evL FN) X (.leaf 2) = some (2, ρ)) := fun X => ⟨X, rfl⟩
  simp only [landD, wls, lgs, I] at h35
  simp only [landD, wls, lgs, dws, I] at h35'
  by_cases hd2 : day < 100000
  · have w4 : IntKind.i64.wrap (day + 1) = day + 1 := wI (by omega)
    have h35' := h35' (by omega)
    rw [hlat (by omega)] at h35'
    have w5 : IntKind.i64.wrap (a + ws[k].yl) = a + ws[k].yl := wI (by omega)
    have w6 : IntKind.i64.wrap (z + ws[k].yh) = z + ws[k].yh := wI (by omega)
    have m1 : (if a + ws[k].yl < ws[k].room then a + ws[k].yl else ws[k].room) = min ws[k].room (a + ws[k].yl) := by split <;> omega
    have m2 : (if z + ws[k].yh < ws[k].room then z + ws[k].yh else ws[k].room) = min ws[k].room (z + ws[k].yh) := by split <;> omega
    have h36 := e36 (min ws[k].room (a + ws[k].yl)) (min ws[k].room (z + ws[k].yh))
    simp only [I] at h36 h35'
    by_cases g : mo ≤ z
    · have g' : ¬ z < mo := by omega
      rw [if_pos g] at h35
      simp [denL, E.den, T.denV, D.cells, h35, D.flat, D.flat0, D.den1, binD, wm, w2, w3, hmx, hmx', mxLD, mxD, outOf_leaf, denVK, hd2, w4, h35', hii, hgt, partD, Wl.d, w5, w6, m1, m2, h36, eqD1, eqDL]
    · have g' : z < mo := by omega
      rw [if_neg g] at h35
      simp [denL, E.den, T.denV, D.cells, h35, D.flat, D.flat0, D.den1, binD, wm, g, g', outOf_leaf, denVK, hd2, w4, h35', hii, hgt, partD, Wl.d, w5, w6, m1, m2, h36, eqD1, eqDL, mxLD, mxD]
  · by_cases g : mo ≤ z
    · have g' : ¬ z < mo := by omega
      rw [if_pos g] at h35
      simp [denL, E.den, T.denV, D.cells, h35, D.flat, D.flat0, D.den1, binD, wm, w2, w3, hmx, hmx', mxLD, mxD, outOf_leaf, denVK, hd2]
    · have g' : z < mo := by omega
      rw [if_neg g] at h35
      simp [denL, E.den, T.denV, D.cells, h35, D.flat, D.flat0, D.den1, binD, wm, g, g', outOf_leaf, denVK, hd2]
end Go.Q
