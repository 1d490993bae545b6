/- Way: water waits. -/
import Derived.Test.YtecgohommehdpaaWc5
set_option linter.unusedVariables false
set_option linter.unusedSimpArgs false
set_option maxRecDepth 100000
namespace Go.Q
open Go.V
theorem e10 (ws : List Wl) (ls : List Lg) (w0 day pl ph : Int) (ks : List Int) (b : Br) (xs : List Cm) (v : Int) (hl : ls.length ≤ 9223372036854775807) (hv : 0 ≤ v ∧ v ≤ 4294967295) :
    evL FN 10 [landD ws ls, I w0, I day, .node [I pl, I ph], ints ks, .node b.d, .list (xs.map Cm.d), U32 v] = some (.bool true) := by
  refine evL_of (F := F10) rfl ?_
  have h38 := e38
  have h15 := e15 ws ls hl
  cases hG : greatL ws ls <;> rw [hG] at h15
  rotate_left
  · simp only [landD, wls, lgs, I] at h15 ⊢
    simp [F10, Fn.denV, fits, T.denV, denL, E.den, D.cells, D.den1, unD, h38, h15, outOf, denVK, Br.d, ints]
  simp only [greatL, Bool.or_eq_false_iff, decide_eq_false_iff_not, Bool.not_eq_false'] at hG
  obtain ⟨⟨g1, g2⟩, g3⟩ := hG
  have hw : ws.length ≤ 9223372036854775807 := by omega
  have hgs : ∀ l ∈ ls, l.gs.length ≤ 20 := fun l hm => by simpa using List.all_eq_true.1 g3 l hm
  have hb : big ls := fun l hm => by have := hgs l hm; omega
  by_cases hk : 24 < ks.length
  · have hk' : (24 : Int) < ks.length := by omega
    simp only [landD, wls, lgs, I] at h15 ⊢
    simp [F10, Fn.denV, fits, T.denV, denL, E.den, D.cells, D.den1, unD, binD, h38, h15, outOf, denVK, Br.d, ints, hk']
  have hk' : ¬ (24 : Int) < ks.length := by omega
  by_cases hx : 30 < xs.length
  · have hx' : (30 : Int) < xs.length := by omega
    simp only [landD, wls, lgs, I] at h15 ⊢
    simp [F10, Fn.denV, fits, T.denV, denL, E.den, D.cells, D.den1, unD, binD, h38, h15, outOf, denVK, Br.d, ints, hk', hx']
  have hx' : ¬ (30 : Int) < xs.length := by omega
  obtain ⟨_, h28, ⟨ss, at', e, rfl, hss, hsl⟩⟩ := e28 ws ls w0 day pl ph ks hw hl hb (by omega)
  have h44 := e44 b xs (by omega)
  obtain ⟨tx, ty, te, ht, hty⟩ := th_bd b xs (by omega)
  rw [ht] at h44
  simp only [Br.d] at h44
  by_cases he : e = 0
  rotate_left
  · simp only [landD, wls, lgs, ints, I] at h15 h28 h44 ⊢
    simp [F10, Fn.denV, fits, T.denV, denL, E.den, D.cells, D.den1, unD, binD, h38, h15, outOf, denVK, Br.d, hk', hx', h28, h44, he]
  by_cases hte : te = 0
  rotate_left
  · simp only [landD, wls, lgs, ints, I] at h15 h28 h44 ⊢
    simp [F10, Fn.denV, fits, T.denV, denL, E.den, D.cells, D.den1, unD, binD, h38, h15, outOf, denVK, Br.d, hk', hx', h28, h44, he, hte]
  subst he hte
  obtain ⟨hL, hss⟩ := hss rfl
  have hty := hty rfl
  have h35n := fun k day => e35_nil ws ls k day hw hl hb hL
  have h35o := fun k m q => e35_one ws ls k m q hw hl hb hL
  have h35l := fun k q => e35_late ws ls k q hw hl hb hL
  have hO := fun k hk => land_wl hL (k := k) hk
  have hall : allN (fun _ => true) ss.length = true := allN_iff.2 fun _ _ => rfl
  simp only [landD, wls, lgs, ints, I] at h15 h28 h44 h35n h35o h35l ⊢
  simp [F10, Fn.denV, fits, T.denV, denL, E.den, D.cells, D.den1, unD, binD, h38, h15, outOf, denVK, Br.d, hk', hx', h28, h44, sps]
  rw [iter_allN ss.length (fun _ => true) (fun i => [I i]) 0 1 [] [] (by simp)]
  · simp [hall, denVK, T.denV, E.den]
  · intro i hi _
    obtain ⟨s1, s2, s3, s4, s5⟩ := hss _ (List.getElem_mem hi)
    generalize hs : ss[i] = s at *
    obtain ⟨k, hkw⟩ := Int.eq_ofNat_of_zero_le s1
    have hkl : k < ws.length := by omega
    have hO := hO k hkl
    obtain ⟨m, h45, m1, m2⟩ := e45 s.al s.ah (IntKind.u32.wrap (v + IntKind.u32.wrap i)) s3 s4 s5 (u32_bd _)
    have h23 := h35n k s.al hkl ⟨s3, by omega⟩
    have h24 := h35n k m hkl ⟨by omega, by omega⟩
    have l1 := wlo_le hO (a := s.al) (b := m) ⟨s3, m1⟩ ws[k].hl
    have l2 := whi_le hO (a := s.al) (b := m) ⟨s3, m1⟩ ws[k].hh
    have l3 := wlo_whi hO (a := m) (by omega)
    have c1 : ¬ s.al < 0 := by omega
    have c2 : ¬ s.ah < s.al := by omega
    have c3 : ¬ 100000 < s.ah := by omega
    have c4 : ¬ wlo ws[k] ws[k].hl m < wlo ws[k] ws[k].hl s.al := by omega
    have c5 : ¬ whi ws[k] ws[k].hh m < whi ws[k] ws[k].hh s.al := by omega
    simp only [U32, I] at h45
    simp [hi, hs, idx_nat hi, partD, Sp.d, D.cells, outOf, denL, E.den, denVK, T.denV, D.den1, binD, hkw, c1, c2, c3, h45, h23, h24, c4, c5]
    by_cases c6 : wlo ws[k] ws[k].hl s.al < ty
    · simp [c6, outOf, denL, E.den, denVK, T.denV, D.den1, binD, wrapN (show i < 9223372036854775807 by omega)]
    simp [c6, outOf, denL, E.den, denVK, T.denV, D.den1, binD, fillD, mxLD, mxD, minC]
    by_cases hm : m < 100000
    · have w1 : IntKind.i64.wrap (m + 1) = m + 1 := wI (by omega)
      have w2 : min (m + 1) 100000 = m + 1 := by omega
      have w0 := hO.r0; have w0' := hO.r1; have w0h := hO.h0
      have b1 : wlo ws[k] ws[k].hl m ≤ wlo ws[k] ws[k].hl (m + 1) := wlo_le hO ⟨by omega, by omega⟩ _
      have b2 : whi ws[k] ws[k].hh m ≤ whi ws[k] ws[k].hh (m + 1) := whi_le hO ⟨by omega, by omega⟩ _
      have b3 : wlo ws[k] ws[k].hl (m + 1) ≤ ws[k].room := by unfold wlo; omega
      have b4 : wlo ws[k] ws[k].hl m ≤ ws[k].room := by unfold wlo; omega
      have h30 := h35o k m ty hkl ⟨by omega, by omega⟩ ⟨hty.1, by omega⟩
      have z1 : wlo ws[k] (max 0 (wlo ws[k] ws[k].hl (m + 1) - ty)) 0 = max 0 (wlo ws[k] ws[k].hl (m + 1) - ty) := by
        generalize wlo ws[k] ws[k].hl (m + 1) = x at *
        unfold wlo; omega
      rw [z1] at h30
      generalize whi ws[k] (whi ws[k] ws[k].hh (m + 1) - ty) 0 = z2 at h30
      have w3 : IntKind.i64.wrap (wlo ws[k] ws[k].hl m - ty) = wlo ws[k] ws[k].hl m - ty := wI (by omega)
      have n1 : ¬ max 0 (wlo ws[k] ws[k].hl (m + 1) - ty) < 0 := by omega
      have n3 : ¬ max 0 (wlo ws[k] ws[k].hl (m + 1) - ty) < wlo ws[k] ws[k].hl m - ty := by omega
      generalize max 0 (wlo ws[k] ws[k].hl (m + 1) - ty) = z3 at *
      simp only [I] at h30 ⊢
      simp [w1, w2, h30, D.flat, D.flat0, D.cells, outOf, denL, E.den, denVK, T.denV, D.den1, binD, n1, hm, w3, n3, wrapN (show i < 9223372036854775807 by omega)]
    · obtain rfl : m = 100000 := by omega
      have w1 : IntKind.i64.wrap 100001 = 100001 := by decide
      have w2 : min (100001 : Int) 100000 = 100000 := by decide
      have h30 := h35l k ty hkl ⟨hty.1, by omega⟩
      have w0 := hO.r0; have w0h := hO.h0; have y0 := hO.y0
      have n1 : ¬ wlo ws[k] ws[k].hl 100000 < 0 := by
        have := Int.mul_nonneg (show (0 : Int) ≤ 100000 by decide) y0
        unfold wlo; omega
      simp only [I] at h30 ⊢
      simp [w1, w2, h30, D.flat, D.flat0, D.cells, outOf, denL, E.den, denVK, T.denV, D.den1, binD, n1, wrapN (show i < 9223372036854775807 by omega)]
  · intro _
    simp [D.den1, binD, outOf, denL, E.den]
end Go.Q
