/- Wells are landmarks: the law, whole. -/
import Derived.Test.YtpdnchpjolkcfaaKt6
set_option linter.unusedVariables false
set_option linter.unusedSimpArgs false
set_option maxRecDepth 100000
namespace Go.Q
open Go.V
theorem loop4_ok (hs0 : List Hf) (us : List Wd) (bs : List By) (ws : List Wl) (ls : List Lg) (hL : landOK ws ls = true) (k : Nat) (hk : k < ws.length) (hbl : bs.length ≤ 9223372036854775807) (hA : Ar hs0 ws[k].x ws[k].y)
    (x1 x4 x5 x6 x7 x8 x9 x10 x12 x13 x14 x15 x16 x17 x18 x19 x20 x21 x22 x23 : D) :
    ∃ hs', iterL (fun vals => outOf outs4 (T.denV (evL FN) ([.node [wls ws, lgs ls], x1, bys bs, wds us, x4, x5, x6, x7, x8, x9, x10, .node ws[k].d, x12, x13, x14, x15, x16, x17, x18, x19, x20, x21, x22, x23, I bs.length] ++ vals) l4)) [I 0, hfs hs0] = some (0, [hfs hs']) ∧ Ar hs' ws[k].x ws[k].y := by
  obtain ⟨⟨t, v⟩, hr, rfl, hs', rfl, hA'⟩ := iter_upto (f := fun vals => outOf outs4 (T.denV (evL FN) ([.node [wls ws, lgs ls], x1, bys bs, wds us, x4, x5, x6, x7, x8, x9, x10, .node ws[k].d, x12, x13, x14, x15, x16, x17, x18, x19, x20, x21, x22, x23, I bs.length] ++ vals) l4))
    (P := fun i ds => ∃ hs, ds = [I i, hfs hs] ∧ Ar hs ws[k].x ws[k].y) (n := bs.length) (R := fun r => r.1 = 0 ∧ ∃ hs, r.2 = [hfs hs] ∧ Ar hs ws[k].x ws[k].y)
    (fun i ds hi ⟨hs, e, hA⟩ => by
      subst e
      rcases l4_ok hs us bs ws ls hL k hk i hi hbl hA x1 x4 x5 x6 x7 x8 x9 x10 x12 x13 x14 x15 x16 x17 x18 x19 x20 x21 x22 x23 with ⟨hs', e, h⟩ | ⟨hs', e, h⟩
      · exact .inl ⟨0, [hfs hs'], e, rfl, hs', rfl, h⟩
      · exact .inr ⟨_, e, hs', by simp, h⟩)
    (fun ds ⟨hs, e, hA⟩ => by
      subst e
      exact ⟨0, [hfs hs], by simp [l4, outs4, T.denV, denL, E.den, D.den1, binD, outOf], rfl, hs, rfl, hA⟩)
    bs.length 0 [I (0 : Nat), hfs hs0] (by omega) ⟨hs0, rfl, hA⟩
  exact ⟨hs', hr, hA'⟩
theorem law4 (ws : List Wl) (ls : List Lg) (at' : Int) (bs : List By) (us : List Wd) (hw : ws.length ≤ 9223372036854775807) (hl : ls.length ≤ 9223372036854775807) (hbg : big ls) (hbl : bs.length ≤ 9223372036854775807) (hat : 0 ≤ at' ∧ at' ≤ 255) :
    evL FN 4 [landD ws ls, U8 at', bys bs, wds us] = some (.bool true) := by
  refine evL_of (F := F4) rfl ?_
  rw [F4_eq]
  obtain ⟨n, rfl⟩ := Int.eq_ofNat_of_zero_le hat.1
  have h18 := e18
  have h19 := e19 ws ls hl
  have h20 := e20 ws ls hw hl hbg
  simp only [landD] at h19 h20 ⊢
  simp [Fn.denV, fits, T.denV, denL, E.den, D.cells, h18, D.den1, binD, unD, h19, wls, lgs, bys, wds]
  simp only [wls, lgs] at h19 h20
  cases hg : greatL ws ls
  rotate_left
  · rw [hg] at h19
    simp [h19, outOf, denL, E.den, denVK, T.denV]
  rw [hg] at h19
  simp [h19, h20, denL, E.den, D.cells, T.denV, D.den1, binD, unD]
  cases hL : landOK ws ls
  · simp [outOf, denL, E.den, denVK, T.denV]
  have hlen : 0 < ws.length := by
    simp only [landOK, Bool.and_eq_true] at hL
    have := inR_iff.1 hL.1.1.1
    omega
  obtain ⟨k, ek⟩ : ∃ k, k = n % ws.length := ⟨_, rfl⟩
  have hk : k < ws.length := by rw [ek]; exact Nat.mod_lt _ hlen
  have hz : ¬ (ws.length : Int) = 0 := by omega
  have hne : ¬ ws = [] := fun e => by rw [e] at hlen; simp at hlen
  have he : ((n : Int)).tmod (ws.length : Int) = (k : Int) := by rw [ek]; rfl
  have he' : ((n : Int)) % (ws.length : Int) = (k : Int) := by rw [ek]; simp
  have hgt : ws[k]? = some ws[k] := List.getElem?_eq_getElem hk
  have hii : D.idx (.int .i64 (k : Int)) ws.length = some k := idx_nat hk
  have hXY := wl_xy (w := ws[k]) (by simp only [landOK, Bool.and_eq_true] at hL; exact List.all_eq_true.1 hL.1.2 _ (List.getElem_mem hk))
  have w0 : IntKind.i64.wrap (n : Int) = n := wrapI (by omega)
  have w1 : IntKind.i64.wrap (ws[k].x - 500) = ws[k].x - 500 := wrapI (by omega)
  have w2 : IntKind.i64.wrap (ws[k].x + 500) = ws[k].x + 500 := wrapI (by omega)
  have w3 : IntKind.i64.wrap (ws[k].y - 500) = ws[k].y - 500 := wrapI (by omega)
  have w4 : IntKind.i64.wrap (ws[k].y + 500) = ws[k].y + 500 := wrapI (by omega)
  have n1 : ∀ a b : Int, mxD false (.int .i64 a) (.int .i64 b) = some (.int .i64 (min a b)) := minD
  have n2 : ∀ a b : Int, mxD true (.int .i64 a) (.int .i64 b) = some (.int .i64 (max a b)) := maxD
  have h22 := e22 (max (ws[k].x - 500) (-10000000)) (min (ws[k].x + 500) 10000000)
  have h22' := e22 (max (ws[k].y - 500) (-10000000)) (min (ws[k].y + 500) 10000000)
  obtain ⟨hst, hA⟩ := start_ok (X := ws[k].x) (Y := ws[k].y) hXY.1 hXY.2 (a := max (ws[k].x - 500) (-10000000)) (b := min (ws[k].x + 500) 10000000) (c := max (ws[k].y - 500) (-10000000)) (d := min (ws[k].y + 500) 10000000) (by omega) (by omega) (by omega) (by omega)
  have h21 := e21 (max (ws[k].x - 500) (-10000000)) (min (ws[k].x + 500) 10000000) (max (ws[k].y - 500) (-10000000)) (min (ws[k].y + 500) 10000000)
  rw [hst] at h21
  generalize sides (max (ws[k].x - 500) (-10000000)) (min (ws[k].x + 500) 10000000) (max (ws[k].y - 500) (-10000000)) (min (ws[k].y + 500) 10000000) = hs0 at *
  simp only [I] at h21 h22 h22'
  simp [outOf_leaf, denVK, denL, E.den, D.cells, T.denV, D.den1, binD, unD, w0, hz, hne, he, he', hii, hgt, partD, Wl.d, w1, w2, w3, w4, mxLD, n1, n2, h22, h22', h21]
  obtain ⟨hs', r1, hA'⟩ := loop4_ok hs0 us bs ws ls hL k hk hbl hA (U8 n) (.bool true) (.bool false) (.bool false) (I n) (I ws.length) (I k) .unit (I (ws[k].x - 500)) (I (max (ws[k].x - 500) (-10000000))) (I (ws[k].x + 500)) (I (min (ws[k].x + 500) 10000000)) (.node [I (max (ws[k].x - 500) (-10000000)), I (min (ws[k].x + 500) 10000000)]) (I (ws[k].y - 500)) (I (max (ws[k].y - 500) (-10000000))) (I (ws[k].y + 500)) (I (min (ws[k].y + 500) 10000000)) (.node [I (max (ws[k].y - 500) (-10000000)), I (min (ws[k].y + 500) 10000000)]) (.node [.node [hfs hs0], I 0]) (.bool false)
  obtain ⟨j, ρ, r2, r3⟩ := e4_ok hs' ws[k] hXY.1 hXY.2 hA' (.node [.list (ws.map Wl.d), .list (ls.map Lg.d)]) (U8 n) (.list (bs.map fun b => [U8 b.n])) (.list (us.map fun w => [U32 w.n])) (.bool false) (.bool false) (I n) (I ws.length) (I k) .unit (I (ws[k].x - 500)) (I (max (ws[k].x - 500) (-10000000))) (I (ws[k].x + 500)) (I (min (ws[k].x + 500) 10000000)) (.node [I (max (ws[k].x - 500) (-10000000)), I (min (ws[k].x + 500) 10000000)]) (I (ws[k].y - 500)) (I (max (ws[k].y - 500) (-10000000))) (I (ws[k].y + 500)) (I (min (ws[k].y + 500) 10000000)) (.node [I (max (ws[k].y - 500) (-10000000)), I (min (ws[k].y + 500) 10000000)]) (.node [.node [hfs hs0], I 0]) (.bool false) (I bs.length)
  simp only [List.cons_append, List.nil_append, wls, lgs, bys, wds, outs4, I, Wl.d] at r1 r2 ⊢
  rw [r1]
  simp only [denVK, List.cons_append, List.nil_append, List.getElem?_cons_zero]
  rw [r2]
  exact r3
end Go.Q
