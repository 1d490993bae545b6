/- WayTrue: a round of the way. -/
import Derived.Test.YtimbhebamjnfmaaTqW2
set_option linter.unusedVariables false
set_option linter.unusedSimpArgs false
set_option maxRecDepth 100000
namespace Go.Q
open Go.V
theorem stepW_none {ls : List Lg} {w k : Int} (h : stepW ls w k = none) : k < 0 ∨ (ls.length : Int) ≤ k ∨ ∃ j : Nat, k = j ∧ ∃ hj : j < ls.length, acr ls[j] w = none := by
  by_cases h1 : k < 0
  · exact .inl h1
  by_cases h2 : (ls.length : Int) ≤ k
  · exact .inr (.inl h2)
  obtain ⟨j, rfl⟩ := Int.eq_ofNat_of_zero_le (show 0 ≤ k by omega)
  have hj : j < ls.length := by omega
  refine .inr (.inr ⟨j, rfl, hj, ?_⟩)
  unfold stepW at h
  rw [if_pos (inR_iff.2 ⟨by omega, by omega⟩)] at h
  simpa [List.getElem?_eq_getElem hj] using h
section
variable (ws : List Wl) (ls : List Lg) (d1 d2 d7 d8 d10 d11 d12 d13 : D) (pl ph now w at' e : Int) (ks : List Int) (by' : List Wd) (ss : List Sp) (tl : List Lg) (i : Nat)
abbrev envW : List D := [landD ws ls, d1, d2, .node [I pl, I ph], ints ks, wds by', .bool true, d7, d8, .node [sps ss, I at', I e], d10, d11, d12, d13, lgs tl, I ks.length, I now, I w, I i]
theorem w4_bad (hi : i < ks.length) (h : stepW ls w ks[i] = none) : outOf o4 (T.denV (evL FN) (envW ws ls d1 d2 d7 d8 d10 d11 d12 d13 pl ph now w at' e ks by' ss tl i) tW4) = some (some 0, [.bool (e == 8)]) := by
  have hki : ks[i]? = some ks[i] := List.getElem?_eq_getElem hi
  rcases stepW_none h with h1 | h1 | ⟨j, h1, hj, h2⟩
  · simp [envW, tW4, tW7, T.denV, denL, E.den, D.cells, D.den1, binD, landD, ints, wls, lgs, hi, idx_nat hi, partD, h1, outOf, denVK, I]
  · have h0 : ¬ ks[i] < 0 := by omega
    simp [envW, tW4, tW7, T.denV, denL, E.den, D.cells, D.den1, binD, landD, ints, wls, lgs, hi, idx_nat hi, partD, h0, h1, outOf, denVK, I]
  · have h0 : ¬ (j : Int) < 0 := by omega
    have h3 : ¬ (ls.length : Int) ≤ j := by omega
    have h17 := e17 ls[j] w
    rw [show othS ls[j] w = -1 by simp [othS, h2]] at h17
    have hij := idx_nat hj
    simp only [Lg.d, I] at h17 hij
    simp [envW, tW4, tW7, T.denV, denL, E.den, D.cells, D.den1, binD, landD, ints, wls, lgs, hi, idx_nat hi, partD, h0, h1, h3, hj, hij, Lg.d, h17, outOf, denVK, I]
theorem w4_skip (hi : i < ks.length) (hi' : i < 1000) {j : Nat} {o : Int} (h1 : ks[i] = j) (hj : j < ls.length) (h2 : acr ls[j] w = some o) (ho : 0 ≤ o) (he : e ≠ 0) :
    outOf o4 (T.denV (evL FN) (envW ws ls d1 d2 d7 d8 d10 d11 d12 d13 pl ph now w at' e ks by' ss tl i) tW4) = some (none, [I now, I o, I ((i + 1 : Nat) : Int)]) := by
  have h0 : ¬ (j : Int) < 0 := by omega
  have h3 : ¬ (ls.length : Int) ≤ j := by omega
  have h17 := e17 ls[j] w
  rw [show othS ls[j] w = o by simp [othS, h2]] at h17
  have hij := idx_nat hj
  have ho' : ¬ o < 0 := by omega
  simp only [Lg.d, I] at h17 hij
  simp [envW, tW4, tW7, T.denV, denL, E.den, D.cells, D.den1, binD, landD, ints, wls, lgs, hi, idx_nat hi, partD, h0, h1, h3, hj, hij, Lg.d, h17, ho', he, outOf, denVK, I, wrapN (show i < 9223372036854775807 by omega)]
theorem w4_go (hi : i < ks.length) (hi' : i < 1000) {j : Nat} {o : Int} (h1 : ks[i] = j) (hj : j < ls.length) (h2 : acr ls[j] w = some o) (ho : 0 ≤ o) (he : e = 0)
    (hp : inS pl ph 1 100000 = true) (hlo : 1 ≤ ls[j].lo ∧ ls[j].lo ≤ ls[j].hi ∧ ls[j].hi ≤ 1000000) (htl : tl[j]? = some (trLeg by' j ls[j])) (htl' : tl.length = ls.length) (hgl : ls[j].gs.length ≤ 20) (hgg : ∀ g ∈ (trLeg by' j ls[j]).gs, 0 ≤ g.ol ∧ g.ol ≤ 100001)
    (hn : 0 ≤ now ∧ now ≤ 100001) {s : Sp} (hs : ss[i]? = some s) (hsl : s.leg = j) (hsw : s.well = o) {pI lI dI on : Int} (hpI : pI = pickS pl ph (atS by' (5 * i))) (hlI : lI = pickS ls[j].lo ls[j].hi (atS by' (5 * i + 1)))
    (hdI : dI = dvd' lI pI) (hdb : 1 ≤ dI ∧ dI ≤ 1100000) (hon : on = goneS now dI (trLeg by' j ls[j]).gs) (c0 : on ≤ 100000) (c1 : s.al ≤ on) (c2 : on ≤ s.ah) (c3 : s.ll ≤ on - dI) (c4 : on - dI ≤ s.lh) (hob : 0 ≤ on) :
    outOf o4 (T.denV (evL FN) (envW ws ls d1 d2 d7 d8 d10 d11 d12 d13 pl ph now w at' e ks by' ss tl i) tW4) = some (none, [I on, I o, I ((i + 1 : Nat) : Int)]) := by
  have h0 : ¬ (j : Int) < 0 := by omega
  have h3 : ¬ (ls.length : Int) ≤ j := by omega
  have h17 := e17 ls[j] w
  rw [show othS ls[j] w = o by simp [othS, h2]] at h17
  have hij := idx_nat hj
  have ho' : ¬ o < 0 := by omega
  obtain ⟨p1, p2, p3⟩ := pace_pos hp
  have a0 := e19 by' (5 * i)
  have a1 := e19 by' (5 * i + 1)
  rw [show ((5 * i : Nat) : Int) = 5 * (i : Int) by omega] at a0
  rw [show ((5 * i + 1 : Nat) : Int) = 5 * (i : Int) + 1 by omega] at a1
  have q0 := e18 (lo := pl) (hi := ph) (atS by' (5 * i)) p2 (by omega) (by omega)
  have q1 := e18 (lo := ls[j].lo) (hi := ls[j].hi) (atS by' (5 * i + 1)) hlo.2.1 (by omega) (by omega)
  have b0 := pick_in (lo := pl) (hi := ph) (atS by' (5 * i)) p2
  have b1 := pick_in (lo := ls[j].lo) (hi := ls[j].hi) (atS by' (5 * i + 1)) hlo.2.1
  rw [← hpI] at q0 b0; rw [← hlI] at q1 b1
  have v1 := wI (x := 5 * (i : Int)) (by omega)
  have v2 := wI (x := 5 * (i : Int) + 1) (by omega)
  have v3 := wI (x := on - dI) (by omega)
  have hpz : ¬ pI = 0 := by omega
  unfold dvd' at hdI
  have hjt : j < tl.length := by omega
  have hLi : tl[j] = trLeg by' j ls[j] := by rw [List.getElem?_eq_getElem hjt] at htl; exact Option.some.inj htl
  have h20 := e20 (trLeg by' j ls[j]) now dI hn ⟨by omega, by omega⟩ (Nat.le_trans (trL_len _) hgl) hgg
  rw [← hon] at h20
  have his : i < ss.length := (List.getElem?_eq_some_iff.1 hs).1
  have hsi : ss[i] = s := (List.getElem?_eq_some_iff.1 hs).2
  have his' : ¬ (ss.length : Int) ≤ i := by omega
  have hidx := idx_nat his
  have sh1 := shal_gts 3 (trLeg by' j ls[j]).gs
  have n0 : ¬ 100001 ≤ on := by omega
  have n1 : ¬ on < s.al := by omega
  have n2 : ¬ s.ah < on := by omega
  have n3 : ¬ on - dI < s.ll := by omega
  have n4 : ¬ s.lh < on - dI := by omega
  have s0 : D.shal1 4 (I (trLeg by' j ls[j]).a) = true := shal_int _ _
  have s1 : D.shal1 4 (I (trLeg by' j ls[j]).b) = true := shal_int _ _
  have s2 : D.shal1 4 (I (trLeg by' j ls[j]).lo) = true := shal_int _ _
  have s3 : D.shal1 4 (I (trLeg by' j ls[j]).hi) = true := shal_int _ _
  generalize trLeg by' j ls[j] = q at *
  simp only [Lg.d, wds, I] at h17 hij a0 a1 q0 q1 h20 hidx s0 s1 s2 s3
  simp [envW, tW4, tW7, T.denV, denL, E.den, D.cells, D.den1, binD, landD, ints, wls, lgs, hi, idx_nat hi, partD, h0, h1, h3, hj, hij, Lg.d, h17, ho', he, outOf, denVK, I, wrapN (show i < 9223372036854775807 by omega)]
  simp [tW6, tW5, T.denV, denL, E.den, D.cells, D.den1, binD, landD, ints, wls, lgs, wds, hi, idx_nat hi, partD, h1, hj, hij, Lg.d, I, outOf, denVK, wrapN (show i < 9223372036854775807 by omega), v1, v2, v3, a0, a1, q0, q1, hpz, ← hdI, hjt, htl', hLi, h20, sh1, s0, s1, s2, s3, D.shal, D.flat, D.flat0, n0, his, his', hidx, sps, hsi, Sp.d, hsl, hsw, n1, n2, n3, n4]
end
end Go.Q
