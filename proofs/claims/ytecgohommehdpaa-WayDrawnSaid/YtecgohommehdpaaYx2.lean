/- Draws more, later days, lifting in parts: the law, whole. -/
import Derived.Test.YtecgohommehdpaaYx1
set_option linter.unusedVariables false
set_option linter.unusedSimpArgs false
set_option maxRecDepth 100000
namespace Go.Q
open Go.V
def res8 : List E := [.c (.bool false), .v 8, .c (.bool false), .c (.bool false), .v 8, .v 23]
theorem lift_nums {x y K : Int} (hx : 0 ≤ x) (hy : 0 ≤ y) (hK : 1 ≤ K) :
    (x + y + K - 1) / K ≤ (x + K - 1) / K + (y + K - 1) / K ∧ (x + K - 1) / K + (y + K - 1) / K ≤ (x + y + K - 1) / K + 1 ∧ x + y ≤ (x + y + K - 1) / K * K ∧ ((x + y + K - 1) / K - 1) * K < x + y := by
  obtain ⟨a1, a2, a3, -⟩ := ceil_sp hx hK
  obtain ⟨b1, b2, b3, -⟩ := ceil_sp hy hK
  obtain ⟨c1, c2, c3, -⟩ := ceil_sp (x := x + y) (by omega) hK
  generalize (x + K - 1) / K = m at *
  generalize (y + K - 1) / K = n at *
  generalize (x + y + K - 1) / K = o at *
  have hs : (o - 1) * K = o * K - K := by rw [Int.sub_mul, Int.one_mul]
  refine ⟨?_, ?_, c1, by omega⟩
  · have h : (o - 1) * K < (m + n) * K := by rw [hs, Int.add_mul]; omega
    have := Int.lt_of_mul_lt_mul_right h (by omega)
    omega
  · have h : (m + n - 2) * K < o * K := by rw [Int.sub_mul, Int.add_mul]; omega
    have := Int.lt_of_mul_lt_mul_right h (by omega)
    omega
theorem k8_ok (ws : List Wl) (ls : List Lg) (k : Nat) (a b tm : Int) (hw : ws.length ≤ 9223372036854775807) (hl : ls.length ≤ 9223372036854775807) (hbg : big ls) (hL : landOK ws ls = true) (hk : k < ws.length) (ha : 0 ≤ a) (hb : 0 ≤ b) (hab : a + b ≤ 1000000000) (ht : 1 ≤ tm ∧ tm ≤ 100) (x2 x3 x4 x9 x10 x11 x12 x13 x14 : D) :
    ∃ ρ, T.denV (evL FN) [.node [.list (ws.map Wl.d), .list (ls.map Lg.d)], I k, x2, x3, x4, I a, I b, I tm, .bool true, x9, x10, x11, x12, x13, x14] k8 = some (5, ρ) ∧ ρ.getD 23 D.unit = .bool true := by
  have hdp : 0 ≤ ws[k].dp ∧ ws[k].dp ≤ 200 := by
    simp only [landOK, Bool.and_eq_true] at hL
    have := List.all_eq_true.1 hL.1.2 _ (List.getElem_mem hk)
    simp only [Wl.ok, Bool.and_eq_true] at this
    exact inR_iff.1 this.1.1.1.1.2
  have e1 := e37 ws ls k a tm hw hl hbg hL hk (by omega) ht
  have e2 := e37 ws ls k b tm hw hl hbg hL hk (by omega) ht
  have e3 := e37 ws ls k (a + b) tm hw hl hbg hL hk (by omega) ht
  have p1 : 0 ≤ a * ws[k].dp := Int.mul_nonneg ha hdp.1
  have p2 : 0 ≤ b * ws[k].dp := Int.mul_nonneg hb hdp.1
  have p3 : (a + b) * ws[k].dp ≤ 1000000000 * 200 := Int.mul_le_mul hab hdp.2 hdp.1 (by decide)
  have p4 : (a + b) * ws[k].dp = a * ws[k].dp + b * ws[k].dp := Int.add_mul _ _ _
  obtain ⟨q1, q2, q3, q4⟩ := lift_nums p1 p2 (show 1 ≤ 1000000 * tm by omega)
  obtain ⟨-, -, c3, c4⟩ := ceil_sp (x := a * ws[k].dp) p1 (show 1 ≤ 1000000 * tm by omega)
  obtain ⟨-, -, d3, d4⟩ := ceil_sp (x := b * ws[k].dp) p2 (show 1 ≤ 1000000 * tm by omega)
  obtain ⟨-, r2, r3, r4⟩ := ceil_sp (x := a * ws[k].dp + b * ws[k].dp) (by omega) (show 1 ≤ 1000000 * tm by omega)
  rw [p4] at e3 p3
  have w0 : IntKind.i64.wrap (a + b) = a + b := wI (by omega)
  have w5 : IntKind.i64.wrap ((a + b) * ws[k].dp) = (a + b) * ws[k].dp := wI (by omega)
  generalize (a * ws[k].dp + 1000000 * tm - 1) / (1000000 * tm) = m at *
  generalize (b * ws[k].dp + 1000000 * tm - 1) / (1000000 * tm) = n at *
  generalize (a * ws[k].dp + b * ws[k].dp + 1000000 * tm - 1) / (1000000 * tm) = o at *
  have s1 : o * (1000000 * tm) = o * tm * 1000000 := by rw [Int.mul_comm 1000000 tm, Int.mul_assoc]
  have s2 : (o - 1) * (1000000 * tm) = (o - 1) * tm * 1000000 := by rw [Int.mul_comm 1000000 tm, Int.mul_assoc]
  have s3 : (o - 1) * tm = o * tm - tm := by rw [Int.sub_mul, Int.one_mul]
  rw [s1] at q3 r2
  rw [s2] at q4
  have t0 : 0 ≤ o * tm := Int.mul_nonneg r3 (by omega)
  have w1 : IntKind.i64.wrap (m + n) = m + n := wI (by omega)
  have w2 : IntKind.i64.wrap (o + 1) = o + 1 := wI (by omega)
  have w3 : IntKind.i64.wrap (o * tm) = o * tm := wI (by omega)
  have w4 : IntKind.i64.wrap (o * tm * 1000000) = o * tm * 1000000 := wI (by omega)
  have w6 : IntKind.i64.wrap (o - 1) = o - 1 := wI (by omega)
  have w7 : IntKind.i64.wrap ((o - 1) * tm) = (o - 1) * tm := wI (by omega)
  have w8 : IntKind.i64.wrap ((o - 1) * tm * 1000000) = (o - 1) * tm * 1000000 := wI (by omega)
  have g1 : (a + b) * ws[k].dp ≤ o * tm * 1000000 := by omega
  have g2 : (o - 1) * tm * 1000000 < (a + b) * ws[k].dp := by omega
  have hgt : ws[k]? = some ws[k] := List.getElem?_eq_getElem hk
  have hii : D.idx (.int .i64 (k : Int)) ws.length = some k := idx_nat hk
  simp only [landD, wls, lgs, I] at e1 e2 e3
  by_cases ho : o = 0
  · subst ho
    have z1 : IntKind.i64.wrap 1 = 1 := by decide
    have z0 : IntKind.i64.wrap 0 = 0 := by decide
    have g1' : (a + b) * ws[k].dp ≤ 0 := by simpa using g1
    have q2' : m + n ≤ 1 := by omega
    simp [k8, denL, E.den, T.denV, D.cells, e1, e2, e3, w0, w1, w5, hgt, hii, partD, Wl.d, D.den1, binD, outOf, denVK, q1, q2', g1', z0, z1]
  · simp [k8, denL, E.den, T.denV, D.cells, e1, e2, e3, w0, w1, w2, w3, w4, w5, w6, w7, w8, hgt, hii, partD, Wl.d, D.den1, binD, outOf, denVK, q1, q2, g1, g2, ho]
theorem law8 (ws : List Wl) (ls : List Lg) (well : Int) (ds : List Dw) (day mo a b tm : Int) (hw : ws.length ≤ 9223372036854775807) (hl : ls.length ≤ 9223372036854775807) (hbg : big ls) (hds : ds.length ≤ 9223372036854775807) (hmo : 0 ≤ mo ∧ mo ≤ 65535) :
    evL FN 8 [landD ws ls, I well, dws ds, I day, .int .u16 mo, I a, I b, I tm] = some (.bool true) := by
  refine evL_of (F := F8) rfl ?_
  rw [F8_eq]
  have h24 := e24
  have h15 := e15 ws ls hl
  have h22 := e22 ws ls hw hl hbg
  have h34 := e34 ws ls ds hw hds
  simp only [landD, wls, lgs, dws, I] at h15 h22 h34 ⊢
  simp [Fn.denV, fits, T.denV, denL, E.den, D.cells, h24, D.den1, binD, unD, h15]
  cases hg : greatL ws ls
  rotate_left
  · simp [outOf_leaf, denL, E.den, denVK, T.denV]
  simp [denL, E.den, D.cells, T.denV, D.den1, binD, unD, h22]
  cases hL : landOK ws ls
  · simp [outOf_leaf, denL, E.den, denVK, T.denV]
  simp [denL, E.den, D.cells, T.denV, D.den1, binD, unD]
  by_cases g1 : well < 0
  · simp [outOf_leaf, denL, E.den, denVK, T.denV, g1]
  simp [denL, E.den, D.cells, T.denV, D.den1, binD, unD, g1]
  obtain ⟨k, rfl⟩ := Int.eq_ofNat_of_zero_le (show 0 ≤ well by omega)
  by_cases g2 : k < ws.length
  rotate_left
  · have g2' : ws.length ≤ k := by omega
    simp [outOf_leaf, denL, E.den, denVK, T.denV, g2']
  have g2' : ¬ ws.length ≤ k := by omega
  simp [denL, E.den, D.cells, T.denV, D.den1, binD, unD, g2']
  by_cases g5 : 200 < ds.length
  · have g5' : (200 : Int) < ds.length := by omega
    simp [outOf_leaf, denL, E.den, denVK, T.denV, g5']
  have g5' : ¬ (200 : Int) < ds.length := by omega
  simp [denL, E.den, D.cells, T.denV, D.den1, binD, unD, g5', h34]
  cases hD : drOK ws.length ds
  · simp [outOf_leaf, denL, E.den, denVK, T.denV]
  simp [denL, E.den, D.cells, T.denV, D.den1, binD, unD]
  by_cases g6 : day < 0
  · simp [outOf_leaf, denL, E.den, denVK, T.denV, g6]
  simp [denL, E.den, D.cells, T.denV, D.den1, binD, unD, g6]
  by_cases g7 : 100000 < day
  · simp [outOf_leaf, denL, E.den, denVK, T.denV, g7]
  have h35 := e35 ws ls k ds day hw hl hbg hL g2 (by omega) (by omega) hD
  have hw8 := fun hf hq => w8_ok ws ls k ds day mo hw hl hbg hL g2 (by omega) hmo (by omega) hD hf hq (I a) (I b) (I tm) (.bool true) (.bool false) (.bool false) (.bool false) (.bool true)
  have hc8 := fun e x10 y0 y1 => c8_ok ds day e (by omega) (.node [.list (ws.map Wl.d), .list (ls.map Lg.d)]) (I k) (.int .u16 mo) (I a) (I b) (I tm) (.bool true) (.bool false) x10 y0 y1 (.bool false)
  have hend : ∀ x9 x10 x11 x12 x13, ∃ j ρ, T.denV (evL FN) [.node [.list (ws.map Wl.d), .list (ls.map Lg.d)], I k, .list (ds.map Dw.d), I day, .int .u16 mo, I a, I b, I tm, .bool true, x9, x10, x11, x12, x13] m8 = some (j, ρ) ∧ Option.map (E.den ρ) res8[j]? = some (.bool true) := by
    intro x9 x10 x11 x12 x13
    by_cases c1 : a < 0
    · exact ⟨4, _, by simp [m8, g8, T.denV, denL, E.den, D.den1, binD, outOf_leaf, denVK, c1]; rfl, by simp [res8, E.den]⟩
    by_cases c2 : b < 0
    · exact ⟨4, _, by simp [m8, g8, T.denV, denL, E.den, D.den1, binD, outOf_leaf, denVK, c1, c2]; rfl, by simp [res8, E.den]⟩
    by_cases c3 : 1000000000 < a
    · exact ⟨4, _, by simp [m8, g8, T.denV, denL, E.den, D.den1, binD, outOf_leaf, denVK, c1, c2, c3]; rfl, by simp [res8, E.den]⟩
    have w1 : IntKind.i64.wrap (1000000000 - a) = 1000000000 - a := wI (by omega)
    by_cases c4 : 1000000000 - a < b
    · exact ⟨4, _, by simp [m8, g8, T.denV, denL, E.den, D.den1, binD, outOf_leaf, denVK, c1, c2, c3, c4, w1]; rfl, by simp [res8, E.den]⟩
    by_cases c5 : tm < 1
    · exact ⟨4, _, by simp [m8, g8, T.denV, denL, E.den, D.den1, binD, outOf_leaf, denVK, c1, c2, c3, c4, c5, w1]; rfl, by simp [res8, E.den]⟩
    by_cases c6 : 100 < tm
    · exact ⟨4, _, by simp [m8, g8, T.denV, denL, E.den, D.den1, binD, outOf_leaf, denVK, c1, c2, c3, c4, c5, c6, w1]; rfl, by simp [res8, E.den]⟩
    obtain ⟨ρ, r1, r2⟩ := k8_ok ws ls k a b tm hw hl hbg hL g2 (by omega) (by omega) (by omega) (by omega) (.list (ds.map Dw.d)) (I day) (.int .u16 mo) x9 x10 x11 x12 x13 (.bool false)
    refine ⟨5, ρ, ?_, by simpa [res8, E.den] using r2⟩
    simp only [I] at r1
    simp [m8, g8, T.denV, denL, E.den, D.den1, binD, outOf_leaf, denVK, c1, c2, c3, c4, c5, c6, w1]
    exact r1
  simp only [landD, wls, lgs, dws, I] at h35
  simp only [I] at hc8 hend
  cases hf : firstN (wgo ws[k] k day ds) ds.length 0 with
  | some i =>
    obtain ⟨j, ρ, r1, r2⟩ := hend (.bool false) (.bool false) (watD ws[k] k day ds) (.bool false) (.bool false)
    simp only [watD, hf, I] at h35 r1
    have hc := hc8 33 (.bool false) (.node [.int .i64 0, .int .i64 0]) (.int .i64 i)
    rw [show ask8 ds day 33 = false from by simp [ask8]] at hc
    simp [outOf_leaf, denVK, denL, E.den, D.cells, T.denV, D.den1, binD, unD, g7, h35, hc, r1]
    exact Option.map_eq_some_iff.1 r2
  | none =>
    obtain ⟨j, ρ, r1, r2⟩ := hend (.bool false) (.bool false) (watD ws[k] k day ds) (.bool false) (.bool (ask8 ds day 0))
    have hw8 := hw8 hf
    simp only [watD, hf, I] at h35 r1 hw8
    generalize wlo ws[k] (wst ws[k] k day ds ds.length).lo (day - (wst ws[k] k day ds ds.length).t) = lo at *
    generalize whi ws[k] (wst ws[k] k day ds ds.length).hi (day - (wst ws[k] k day ds ds.length).t) = hi at *
    have hc := hc8 0 (.bool false) (.node [.int .i64 lo, .int .i64 hi]) (.int .i64 0)
    cases hq : ask8 ds day 0 with
    | false =>
      rw [hq] at hc r1
      simp [outOf_leaf, denVK, denL, E.den, D.cells, T.denV, D.den1, binD, unD, g7, h35, hc, r1]
      exact Option.map_eq_some_iff.1 r2
    | true =>
      rw [hq] at hc r1
      obtain ⟨ρ', r3⟩ := hw8 hq
      simp [outOf_leaf, denVK, denL, E.den, D.cells, T.denV, D.den1, binD, unD, g7, h35, hc, r3, r1]
      exact Option.map_eq_some_iff.1 r2
end Go.Q
