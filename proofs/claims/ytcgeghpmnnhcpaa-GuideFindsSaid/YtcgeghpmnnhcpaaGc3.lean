/- Guide: the reference's near. -/
import Derived.Test.YtcgeghpmnnhcpaaGc2
set_option linter.unusedVariables false
set_option linter.unusedSimpArgs false
namespace Go.Q
open Go.V
theorem e72 (a b : List Hf) (hl : a.length + b.length < 1000000) : evL FN 72 [hfs a, hfs b] = some (hfs (a ++ b)) := by
  refine evL_of (F := F72) rfl ?_
  have hall : ∀ l : List Hf, (l.map Hf.d).all (fun y => y.length == 3) = true := fun l => by simp [Hf.d]
  have c1 : (a.length + 1) * 25 ≤ 1099511627776 := cap25 (by omega)
  have c2 : (a.length + b.length + 1) * 25 ≤ 1099511627776 := cap25 hl
  simp [F72, Fn.denV, fits, T.denV, denVK, denL, E.den, D.cells, hfs, D.den1, c1, c2, Hf.d]
theorem e77 (hs : List Hf) (x y f : Int) (hl : hs.length < 9223372036854775807) : evL FN 77 [.node [hfs hs], I x, I y, I f] = some (I (nearS hs x y f).2) := by
  refine evL_of (F := F77) rfl ?_
  have h74 := e74 hs hl
  simp only [hfs, I] at h74
  unfold nearS askOK plOK
  cases k1 : okA hs
  · rw [k1] at h74
    simp [F77, Fn.denV, fits, T.denV, denVK, denL, E.den, D.cells, hfs, D.den1, binD, unD, h74]
  rw [k1] at h74
  obtain ⟨hin, hlen⟩ := okA_in k1
  have h75 := e75 hs hin (by omega)
  simp only [hfs, crs] at h75
  have hn := crn_nil (hs := hs)
  generalize crnR hs hs.length = cs at h75 hn
  cases k2 : inR x (-10000000) 10000000 <;> cases k3 : inR y (-10000000) 10000000 <;> cases k4 : inR f 0 10000000 <;> cases k5 : hasPl hs <;>
    simp only [k5, reduceCtorEq, iff_false, iff_true] at hn <;>
    simp [F77, Fn.denV, fits, T.denV, denVK, denL, E.den, D.cells, hfs, D.den1, binD, unD, outOf, h74, e82, k2, k3, k4, h75, hn]
theorem nr_all {x y f : Int} {c : Cr} : (nr x y f).all c.isIn = (decide (c.x ≤ (x + f) * c.p) && (decide ((x - f) * c.p ≤ c.x) && (decide (c.y ≤ (y + f) * c.p) && decide ((y - f) * c.p ≤ c.y)))) := by
  have e1 : -(x - f) * c.p = -((x - f) * c.p) := Int.neg_mul _ _
  have e2 : -(y - f) * c.p = -((y - f) * c.p) := Int.neg_mul _ _
  simp only [nr, sides, List.all_cons, List.all_nil, Cr.isIn, Bool.and_true]
  congr 1
  · rw [decide_eq_decide]; omega
  congr 1
  · rw [decide_eq_decide]; omega
  congr 1
  · rw [decide_eq_decide]; omega
  · rw [decide_eq_decide]; omega
theorem e78 (hs : List Hf) (x y f : Int) (hh : ∀ h ∈ hs, h.In) (ha : askOK x y f = true) (hl : hs.length < 900) : evL FN 78 [hfs hs, I x, I y, I f] = some (U8 (kn hs (nr x y f))) := by
  refine evL_of (F := F78) rfl ?_
  have hA := askIn ha
  have h102 := e102 hA.1 hA.2.1 hA.2.2
  have h72 := e72 hs (nr x y f) (by simp [nr, sides]; omega)
  have hh2 : ∀ h ∈ hs ++ nr x y f, h.In := by
    intro h hm
    rcases List.mem_append.1 hm with h1 | h1
    · exact hh h h1
    · exact nrIn ha h h1
  have h75 := e75 (hs ++ nr x y f) hh2 (by simp [nr, sides]; omega)
  have h75' := e75 hs hh (by omega)
  have hn := crn_nil (hs := hs ++ nr x y f)
  have s1 := shal_hfs (n := 0) (hs := hs ++ nr x y f)
  have s2 := shal_crs (n := 0) (cs := crnR (hs ++ nr x y f) (hs ++ nr x y f).length)
  have hin : ∀ c ∈ crnR hs hs.length, c.In ∧ 0 < c.p := fun c hc => crn_in hh hc
  have hcl := crnR_le hs hs.length (Nat.le_refl _)
  have hcl2 : hs.length * hs.length ≤ 1000 * 1000 := Nat.mul_le_mul (by omega) (by omega)
  unfold kn
  change evL FN 102 _ = some (hfs (nr x y f)) at h102
  obtain ⟨ms, hms⟩ : ∃ ms, hs ++ nr x y f = ms := ⟨_, rfl⟩
  rw [hms] at h72 h75 hn s1 s2 ⊢
  simp only [hfs, crs, I] at h102 h72 h75 h75' s1 s2
  generalize crnR ms ms.length = cs at h75 hn s2
  generalize crnR hs hs.length = ds at h75' hin hcl ⊢
  cases e : hasPl ms
  · rw [e] at hn
    obtain rfl := hn.2 rfl
    have s3 : D.shal 1 (.list []) = true := rfl
    simp [s3, F78, Fn.denV, fits, T.denV, denVK, denL, E.den, D.cells, hfs, D.den1, binD, unD, outOf, h102, h72, h75, s1, s2]
  have hne : cs ≠ [] := fun h => by rw [hn.1 h] at e; cases e
  simp [F78, Fn.denV, fits, T.denV, denVK, denL, E.den, D.cells, hfs, D.den1, binD, unD, outOf, h102, h72, h75, h75', s1, s2, hne, -List.all_eq_true]
  rw [iter_all (p := fun c : Cr => (nr x y f).all c.isIn) (t := 0) (u := 1) (xs := ds)]
  · cases ds.all fun c : Cr => (nr x y f).all c.isIn <;> simp [denVK, T.denV, E.den]
  · intro i c hi
    obtain ⟨hlt, rfl⟩ := List.getElem?_eq_some_iff.1 hi
    obtain ⟨hc, hp⟩ := hin ds[i] (List.getElem_mem hlt)
    rw [nr_all]
    have m1 := mulB (show -20000000 ≤ x + f ∧ x + f ≤ 20000000 by omega) hc.p
    have m2 := mulB (show -20000000 ≤ x - f ∧ x - f ≤ 20000000 by omega) hc.p
    have m3 := mulB (show -20000000 ≤ y + f ∧ y + f ≤ 20000000 by omega) hc.p
    have m4 := mulB (show -20000000 ≤ y - f ∧ y - f ≤ 20000000 by omega) hc.p
    have w1 := wrapI (x := x + f) (by omega)
    have w2 := wrapI (x := x - f) (by omega)
    have w3 := wrapI (x := y + f) (by omega)
    have w4 := wrapI (x := y - f) (by omega)
    have v1 := wrapI (x := (x + f) * ds[i].p) (by omega)
    have v2 := wrapI (x := (x - f) * ds[i].p) (by omega)
    have v3 := wrapI (x := (y + f) * ds[i].p) (by omega)
    have v4 := wrapI (x := (y - f) * ds[i].p) (by omega)
    have hlt' : (i : Int) < ds.length := by omega
    by_cases k1 : ds[i].x ≤ (x + f) * ds[i].p
    rotate_left
    · have k1' : (x + f) * ds[i].p < ds[i].x := by omega
      simp [k1, k1', hlt, hlt', idx_nat hlt, hi, Cr.d, partD, w1, w2, w3, w4, v1, v2, v3, v4, outOf, denL, E.den, denVK, T.denV]
    have k1' : ¬ (x + f) * ds[i].p < ds[i].x := by omega
    by_cases k2 : (x - f) * ds[i].p ≤ ds[i].x
    rotate_left
    · have k2' : ds[i].x < (x - f) * ds[i].p := by omega
      simp [k1, k1', k2, k2', hlt, hlt', idx_nat hlt, hi, Cr.d, partD, w1, w2, w3, w4, v1, v2, v3, v4, outOf, denL, E.den, denVK, T.denV]
    have k2' : ¬ ds[i].x < (x - f) * ds[i].p := by omega
    by_cases k3 : ds[i].y ≤ (y + f) * ds[i].p
    rotate_left
    · have k3' : (y + f) * ds[i].p < ds[i].y := by omega
      simp [k1, k1', k2, k2', k3, k3', hlt, hlt', idx_nat hlt, hi, Cr.d, partD, w1, w2, w3, w4, v1, v2, v3, v4, outOf, denL, E.den, denVK, T.denV]
    have k3' : ¬ (y + f) * ds[i].p < ds[i].y := by omega
    by_cases k4 : (y - f) * ds[i].p ≤ ds[i].y
    · have k4' : ¬ ds[i].y < (y - f) * ds[i].p := by omega
      simp [k1, k1', k2, k2', k3, k3', k4, k4', hlt, hlt', idx_nat hlt, hi, Cr.d, partD, w1, w2, w3, w4, v1, v2, v3, v4, outOf, denL, E.den, denVK, T.denV, D.den1, binD, wrapN (show i < 9223372036854775807 by omega)]
    · have k4' : ds[i].y < (y - f) * ds[i].p := by omega
      simp [k1, k1', k2, k2', k3, k3', k4, k4', hlt, hlt', idx_nat hlt, hi, Cr.d, partD, w1, w2, w3, w4, v1, v2, v3, v4, outOf, denL, E.den, denVK, T.denV, D.den1, binD, wrapN (show i < 9223372036854775807 by omega)]
  · simp [outOf, denL]
theorem e33 (hs : List Hf) (x y f : Int) (hl : hs.length < 9223372036854775807) : evL FN 33 [.node [hfs hs], I x, I y, I f] = some (.node [U8 (nearS hs x y f).1, I (nearS hs x y f).2]) := by
  refine evL_of (F := F33) rfl ?_
  have h77 := e77 hs x y f hl
  simp only [hfs, I] at h77
  by_cases h0 : (nearS hs x y f).2 = 0
  · have hk : okA hs = true ∧ askOK x y f = true ∧ (nearS hs x y f).1 = kn hs (nr x y f) := by
      unfold nearS at h0 ⊢
      cases h1 : okA hs
      · simp [h1] at h0
      cases h2 : askOK x y f
      · simp [h1, h2] at h0
      cases h3 : hasPl hs
      · simp [h1, h2, h3] at h0
      simp
    obtain ⟨hin, hlen⟩ := okA_in hk.1
    have h78 := e78 hs x y f hin hk.2.1 (by omega)
    simp only [hfs, I] at h78
    rw [hk.2.2]
    rw [h0] at h77 ⊢
    simp [F33, Fn.denV, fits, T.denV, denVK, denL, E.den, D.cells, hfs, D.den1, binD, h77, h78]
  · have hk : (nearS hs x y f).1 = 0 := by
      unfold nearS at h0 ⊢
      cases h1 : okA hs
      · simp
      cases h2 : askOK x y f
      · simp
      cases h3 : hasPl hs
      · simp
      simp [h1, h2, h3] at h0
    rw [hk]
    simp [F33, Fn.denV, fits, T.denV, denVK, denL, E.den, D.cells, hfs, D.den1, binD, h77, h0]
end Go.Q
