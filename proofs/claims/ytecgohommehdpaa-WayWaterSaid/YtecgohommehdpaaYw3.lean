/- Water is conserved: the law. -/
import Derived.Test.YtecgohommehdpaaYw2
set_option linter.unusedVariables false
set_option linter.unusedSimpArgs false
set_option maxRecDepth 100000
namespace Go.Q
open Go.V
theorem e24 : evL FN 24 [] = some (.bool true) := by
  refine evL_of (F := F24) rfl ?_
  simp [F24, Fn.denV, fits, T.denV, denL, E.den]
def res7 : List E := [.c (.bool false), .v 5, .v 21, .c (.bool false), .v 22]
theorem outOf_leaf {α : Type} {outs : List (List E × α)} {j : Nat} {ρ : List D} : outOf outs (some (j, ρ)) = (outs[j]?).map (fun p => (p.2, denL ρ p.1)) := rfl
theorem conv8 {n : Int} (h : 0 ≤ n ∧ n ≤ 255) : IntKind.i64.wrap n = n := wI (by omega)
theorem e7_ok (ws : List Wl) (ls : List Lg) (k : Nat) (ds : List Dw) (us : List Wd) (day : Nat) (hw : ws.length ≤ 9223372036854775807) (hl : ls.length ≤ 9223372036854775807) (hb : big ls) (hL : landOK ws ls = true) (hk : k < ws.length) (hday : day ≤ 255)
    (hx : ds.length ≤ 200) (hD : drOK ws.length ds = true) (x4 x6 x7 x8 x10 x12 : D) :
    ∃ j ρ, T.denV (evL FN) ([.node [.list (ws.map Wl.d), .list (ls.map Lg.d)], I k, .list (ds.map Dw.d), U8 day, x4, .bool true, x6, x7, x8, .node ws[k].d, x10, I (pickS ws[k].hl ws[k].hh (atS us 0)), x12] ++ (fin7 ws[k] k ds us day).enc) e7 = some (j, ρ) ∧ Option.map (E.den ρ) res7[j]? = some (.bool true) := by
  have hO := land_wl hL hk
  have y0 := hO.y0; have r0 := hO.r0; have r1 := hO.r1
  have h35 := e35 ws ls k ds day hw hl hb hL hk (by omega) hx hD
  have w1 := conv8 (n := day) (by omega)
  simp only [landD, wls, lgs, dws, I] at h35
  cases hf2 : firstN (wgo ws[k] k day ds) ds.length 0 with
  | some i =>
    obtain ⟨-, hi, hgo, -⟩ := firstN_some hf2
    have hi : i < ds.length := by omega
    simp only [wgo, List.getElem?_eq_getElem hi, Option.all_some, Bool.or_eq_false_iff, dskip, decide_eq_false_iff_not] at hgo
    have hwet : (fin7 ws[k] k ds us day).wet = false := by
      unfold fin7
      cases hf : firstN (fun d => (lawD ws[k] k ds us (d + 1)).wet) day 0 with
      | some d => exact (firstN_some hf).2.2.1
      | none =>
        exfalso
        have := (wet_told (us := us) hO hD hx hday (fun j hj => firstN_none.1 hf j (by omega) (by omega))).1
        rw [hf2] at this; cases this
    have hkk : ds[i].k = k := by have := hgo.1.1; omega
    have hmm : ds[i].m < day := by have := hgo.1.2; omega
    have hi' : (i : Int) < ds.length := by omega
    simp only [watD, hf2] at h35
    exact ⟨2, _, by simp [e7, LS.enc, hwet, T.denV, denL, E.den, D.den1, binD, unD, D.cells, h35, w1, outOf, denVK, hi, hi', idx_nat hi, Dw.d, partD, hkk, hmm]; rfl, by simp [res7, E.den]⟩
  | none =>
    have hall2 := firstN_none.1 hf2
    have hv := w_inv (k := k) hO hD (show 0 ≤ (day : Int) ∧ (day : Int) ≤ 100000 by omega) ds.length (Nat.le_refl _) (fun j hj => hall2 j (by omega) (by omega))
    have v1 := hv.t0; have v2 := hv.td; have v3 := hv.lo; have v4 := hv.hi
    have hfb := fill_bd hO v3 v4 (n := day - (wst ws[k] k day ds ds.length).t) (by omega)
    have hfin : (fin7 ws[k] k ds us day).wet = true → LB ws[k] (pickS ws[k].hl ws[k].hh (atS us 0)) day (fin7 ws[k] k ds us day) ∧ wlo ws[k] (wst ws[k] k day ds ds.length).lo (day - (wst ws[k] k day ds ds.length).t) ≤ (fin7 ws[k] k ds us day).has ∧ (fin7 ws[k] k ds us day).has ≤ whi ws[k] (wst ws[k] k day ds ds.length).hi (day - (wst ws[k] k day ds ds.length).t) := by
      intro hwt
      unfold fin7 at hwt ⊢
      cases hf : firstN (fun d => (lawD ws[k] k ds us (d + 1)).wet) day 0 with
      | some d =>
        rw [hf] at hwt
        have := (firstN_some hf).2.2.1
        simp only at hwt this
        rw [hwt] at this; cases this
      | none =>
        have hall := fun j (hj : j < day) => firstN_none.1 hf j (by omega) (by omega)
        exact ⟨(lb_all (n := ws.length) hO hD hx day hall).1, (wet_told (us := us) hO hD hx hday hall).2⟩
    have hpi := pick_in (lo := ws[k].hl) (hi := ws[k].hh) (atS us 0) hO.h1
    have q0 := hO.h0; have q2 := hO.h2
    simp only [watD, hf2] at h35
    generalize wlo ws[k] (wst ws[k] k day ds ds.length).lo (day - (wst ws[k] k day ds ds.length).t) = a at *
    generalize whi ws[k] (wst ws[k] k day ds ds.length).hi (day - (wst ws[k] k day ds ds.length).t) = z at *
    generalize pickS ws[k].hl ws[k].hh (atS us 0) = f at *
    generalize fin7 ws[k] k ds us day = s at *
    have n1 : ¬ a < 0 := by omega
    have n2 : ¬ z < a := by omega
    have n3 : ¬ ws[k].room < z := by omega
    cases hwt : s.wet with
    | false =>
      exact ⟨4, _, by simp [e7, LS.enc, hwt, T.denV, denL, E.den, D.den1, binD, unD, D.cells, h35, w1, outOf, denVK, n1, n2, n3, Wl.d]; rfl, by simp [res7, E.den]⟩
    | true =>
      obtain ⟨hB, c1, c2⟩ := hfin hwt
      have b1 := hB.has; have b2 := hB.came; have b3 := hB.over; have b4 := hB.drawn; have b5 := hB.all
      have u1 : IntKind.i64.wrap (s.has + s.drawn) = s.has + s.drawn := wI (by omega)
      have u2 : IntKind.i64.wrap (s.has + s.drawn + s.over) = s.has + s.drawn + s.over := wI (by omega)
      have u3 : IntKind.i64.wrap (f + s.came) = f + s.came := wI (by omega)
      exact ⟨4, _, by simp [e7, LS.enc, hwt, T.denV, denL, E.den, D.den1, binD, unD, D.cells, h35, w1, outOf, denVK, n1, n2, n3, Wl.d, u1, u2, u3, b5, c1, c2]; rfl, by simp [res7, E.den]⟩
theorem law7 (ws : List Wl) (ls : List Lg) (well : Int) (ds : List Dw) (dy : Int) (us : List Wd) (hw : ws.length ≤ 9223372036854775807) (hl : ls.length ≤ 9223372036854775807) (hb : big ls) (hds : ds.length ≤ 9223372036854775807) (hdy : 0 ≤ dy ∧ dy ≤ 255) :
    evL FN 7 [landD ws ls, I well, dws ds, U8 dy, wds us] = some (.bool true) := by
  refine evL_of (F := F7) rfl ?_
  rw [F7_eq]
  obtain ⟨day, rfl⟩ := Int.eq_ofNat_of_zero_le hdy.1
  have h24 := e24
  have h15 := e15 ws ls hl
  have h22 := e22 ws ls hw hl hb
  have h34 := e34 ws ls ds hw hds
  have w1 := conv8 (n := day) (by omega)
  simp only [landD, wls, lgs, dws, wds, I] at h15 h22 h34 ⊢
  simp [Fn.denV, fits, T.denV, denL, E.den, D.cells, h24, D.den1, binD, unD, h15]
  cases hg : greatL ws ls
  rotate_left
  · simp [outOf, denL, E.den, denVK, T.denV]
  simp [denL, E.den, D.cells, T.denV, D.den1, binD, unD, h22]
  cases hL : landOK ws ls
  · simp [outOf, denL, E.den, denVK, T.denV]
  simp [denL, E.den, D.cells, T.denV, D.den1, binD, unD]
  by_cases g1 : well < 0
  · simp [outOf, denL, E.den, denVK, T.denV, g1]
  simp [denL, E.den, D.cells, T.denV, D.den1, binD, unD, g1]
  obtain ⟨k, rfl⟩ := Int.eq_ofNat_of_zero_le (show 0 ≤ well by omega)
  by_cases g2 : k < ws.length
  rotate_left
  · have g2' : ws.length ≤ k := by omega
    simp [outOf, denL, E.den, denVK, T.denV, g2']
  have g2' : ¬ ws.length ≤ k := by omega
  simp [denL, E.den, D.cells, T.denV, D.den1, binD, unD, g2']
  by_cases g5 : 200 < ds.length
  · have g5' : (200 : Int) < ds.length := by omega
    simp [outOf, denL, E.den, denVK, T.denV, g5']
  have g5' : ¬ (200 : Int) < ds.length := by omega
  simp [denL, E.den, D.cells, T.denV, D.den1, binD, unD, g5', h34]
  cases hD : drOK ws.length ds
  · simp [outOf, denL, E.den, denVK, T.denV]
  have hO := land_wl hL g2
  have q0 := hO.h0; have q1 := hO.h1; have q2 := hO.h2; have r1 := hO.r1
  have h32 := e32 us 0
  have h31 := e31 (lo := ws[k].hl) (hi := ws[k].hh) (atS us 0) q1 (by omega) (by omega)
  have hgt : ws[k]? = some ws[k] := List.getElem?_eq_getElem g2
  have hii : D.idx (.int .i64 (k : Int)) ws.length = some k := idx_nat g2
  simp only [wds, I, Int.natCast_zero] at h32 h31
  simp [outOf_leaf, denVK, denL, E.den, D.cells, T.denV, D.den1, binD, unD, hii, hgt, partD, Wl.d, h32, h31, w1]
  have ho := o7_ok ws ls k ds us day hD (by omega) g2 hO (by omega)
  obtain ⟨j, ρ, r1', r2'⟩ := e7_ok ws ls k ds us day hw hl hb hL g2 (by omega) (by omega) hD (wds us) (.bool false) (.bool false) .unit (U32 (atS us 0).n) (I day)
  simp only [List.cons_append, List.nil_append, I, wds, outs7, Wl.d] at ho r1' ⊢
  rw [ho]
  simp only [denVK, List.cons_append, List.nil_append]
  rw [r1']
  exact r2'
end Go.Q
