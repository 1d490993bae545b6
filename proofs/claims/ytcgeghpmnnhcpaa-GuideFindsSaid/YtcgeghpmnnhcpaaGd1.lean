/- Guide: bounds. -/
import Derived.Test.YtcgeghpmnnhcpaaGd0
set_option linter.unusedVariables false
set_option linter.unusedSimpArgs false
namespace Go.Q
open Go.V
theorem fold4 {f1 f2 f3 f4 : Int → Cr → Int} : ∀ (cs : List Cr) (a b c d : Int), cs.foldl (fun (s : Int × Int × Int × Int) x => (f1 s.1 x, f2 s.2.1 x, f3 s.2.2.1 x, f4 s.2.2.2 x)) (a, b, c, d) = (cs.foldl f1 a, cs.foldl f2 b, cs.foldl f3 c, cs.foldl f4 d)
  | [], _, _, _, _ => rfl
  | x :: cs, a, b, c, d => by
    simp only [List.foldl_cons]
    exact fold4 cs _ _ _ _
theorem minD (a b : Int) : mxD false (I a) (I b) = some (I (min a b)) := by simp only [mxD, I]; congr 1; rw [← minC]; rfl
theorem maxD (a b : Int) : mxD true (I a) (I b) = some (I (max a b)) := by simp only [mxD, I]; congr 1; rw [← maxC]; rfl
set_option maxHeartbeats 1600000 in
theorem e32 (hs : List Hf) (hl : hs.length < 9223372036854775807) : evL FN 32 [.node [hfs hs]] = some (bndD (bndS hs)) := by
  refine evL_of (F := F32) rfl ?_
  have h74 := e74 hs hl
  simp only [hfs, I] at h74
  unfold bndS bndD
  cases k1 : okA hs
  · rw [k1] at h74
    simp [F32, Fn.denV, fits, T.denV, denVK, denL, E.den, D.cells, hfs, D.den1, binD, unD, h74]
  rw [k1] at h74
  obtain ⟨hin, hlen⟩ := okA_in k1
  have h75 := e75 hs hin (by omega)
  have hc : ∀ c ∈ crnR hs hs.length, c.In ∧ 0 < c.p := fun c hc => crn_in hin hc
  have hcl := crnR_le hs hs.length (Nat.le_refl _)
  have hcl2 : hs.length * hs.length ≤ 40 * 40 := Nat.mul_le_mul (by omega) (by omega)
  simp only [hfs, crs] at h75
  generalize crnR hs hs.length = ds at h75 hc hcl ⊢
  have step : ∀ c ∈ ds, evL FN 76 [I c.x, I c.p] = some (I (fX c)) ∧ evL FN 76 [I (-c.x), I c.p] = some (I (-c.x / c.p)) ∧ evL FN 76 [I c.y, I c.p] = some (I (fY c)) ∧ evL FN 76 [I (-c.y), I c.p] = some (I (-c.y / c.p)) ∧
      IntKind.i64.wrap (-c.x) = -c.x ∧ IntKind.i64.wrap (-c.y) = -c.y ∧ IntKind.i64.wrap (-(-c.x / c.p)) = gX c ∧ IntKind.i64.wrap (-(-c.y / c.p)) = gY c := by
    intro c hm
    obtain ⟨hi, hp⟩ := hc c hm
    have hx := hi.x
    have hy := hi.y
    have hpp := hi.p
    have d1 := divB (n := -c.x) (B := 1000000000000000) hp (by omega)
    have d2 := divB (n := -c.y) (B := 1000000000000000) hp (by omega)
    exact ⟨e76 hp (by omega) (by omega), e76 hp (by omega) (by omega), e76 hp (by omega) (by omega), e76 hp (by omega) (by omega), wrapI (by omega), wrapI (by omega), wrapI (by omega), wrapI (by omega)⟩
  cases ds with
  | nil =>
    simp [F32, Fn.denV, fits, T.denV, denVK, denL, E.den, D.cells, hfs, D.den1, binD, unD, h74, h75]
  | cons c cs =>
    rw [List.length_cons] at hcl
    have v1 : IntKind.i64.wrap 1 = 1 := by decide
    have k0 : ¬ ((cs.length : Int) + 1 = 0) := by omega
    have k1 : (0 : Int) < (cs.length : Int) + 1 := by omega
    have i0 : D.idx (.int .i64 0) (cs.length + 1) = some 0 := by simp [D.idx, k1]
    simp only [List.map_cons, Cr.d] at h75
    simp [F32, Fn.denV, fits, T.denV, denVK, denL, E.den, D.cells, hfs, D.den1, binD, unD, h74, h75, k0]
    rw [iterL_eq]
    obtain ⟨s1, s2, s3, s4, s5, s6, s7, s8⟩ := step c (by simp)
    simp only [I] at s1 s2 s3 s4 s5 s6 s7 s8
    have m1 : ∀ a : Int, mxD false (.int .i64 a) (.int .i64 a) = some (.int .i64 a) := fun a => by have := minD a a; simpa using this
    have m2 : ∀ a : Int, mxD true (.int .i64 a) (.int .i64 a) = some (.int .i64 a) := fun a => by have := maxD a a; simpa using this
    simp [k1, i0, partD, D.cells, s1, s2, s3, s4, s5, s6, s7, s8, m1, m2, mxLD, v1, outOf, denVK, T.denV, denL, E.den, D.den1, binD, unD]
    rw [iter_foldl (g := fun (s : Int × Int × Int × Int) x => (min s.1 (fX x), max s.2.1 (gX x), min s.2.2.1 (fY x), max s.2.2.2 (gY x))) (s0 := (fX c, gX c, fY c, gY c)) (u := 0) (fin := fun s => [I s.1, I s.2.1, I s.2.2.1, I s.2.2.2]) (xs := cs) (enc := fun i s => [I (i + 1), I s.1, I s.2.1, I s.2.2.1, I s.2.2.2])]
    · rw [fold4 (f1 := fun m x => min m (fX x)) (f2 := fun m x => max m (gX x)) (f3 := fun m x => min m (fY x)) (f4 := fun m x => max m (gY x))]
      simp [denVK, T.denV, denL, E.den, lo2, hi2]
    · simp
    · intro i x s hx
      obtain ⟨hlt, rfl⟩ := List.getElem?_eq_some_iff.1 hx
      have hlt' : (i : Int) < cs.length := by omega
      have hi0 : ¬ ((i : Int) + 1 = 0) := by omega
      obtain ⟨s1, s2, s3, s4, s5, s6, s7, s8⟩ := step cs[i] (by simp)
      simp only [I] at s1 s2 s3 s4 s5 s6 s7 s8
      have n1 : ∀ a b : Int, mxD false (.int .i64 a) (.int .i64 b) = some (.int .i64 (min a b)) := minD
      have n2 : ∀ a b : Int, mxD true (.int .i64 a) (.int .i64 b) = some (.int .i64 (max a b)) := maxD
      simp [hlt, hlt', hi0, idx_succ hlt, hx, Cr.d, partD, D.cells, s1, s2, s3, s4, s5, s6, s7, s8, n1, n2, mxLD, outOf, denVK, T.denV, denL, E.den, D.den1, binD, unD, wrapN2 (show i < 9223372036854775806 by omega)]
    · intro s
      simp [outOf, denL, E.den]
theorem capb {n : Nat} (h : n < 1000000) : (n + 1) * 9 ≤ 1099511627776 := by omega
theorem cor_of {hs : List Hf} {g h : Hf} : cor hs h g = if good hs g h then some (cross g h) else none := by
  cases e : good hs g h
  · cases e2 : cor hs h g with
    | none => simp
    | some c =>
      have := good_comm (cor_iff.1 e2).1
      rw [this] at e; cases e
  · simp only [if_true]
    exact cor_iff.2 ⟨good_comm e, cross_comm_good (hs := hs) (by have := (good_iff.1 e).1; omega)⟩
set_option maxHeartbeats 3200000 in
theorem e19 (hs : List Hf) (hl : hs.length < 9223372036854775807) : evL FN 19 [.node [hfs hs]] = some (bndD (bndS hs)) := by
  refine evL_of (F := F19) rfl ?_
  have h28 := e28 hs hl
  simp only [hfs, I] at h28
  unfold bndS bndD
  cases k1 : okA hs
  · rw [k1] at h28
    simp [F19, Fn.denV, fits, T.denV, denVK, denL, E.den, D.cells, hfs, D.den1, binD, unD, h28]
  rw [k1] at h28
  obtain ⟨hin, hlen⟩ := okA_in k1
  have hc : ∀ c ∈ crnR hs hs.length, c.In ∧ 0 < c.p := fun c hc => crn_in hin hc
  have hcl := crnR_le hs hs.length (Nat.le_refl _)
  have hcl2 : hs.length * hs.length ≤ 40 * 40 := Nat.mul_le_mul (by omega) (by omega)
  simp [F19, Fn.denV, fits, T.denV, denVK, denL, E.den, D.cells, hfs, D.den1, binD, unD, h28]
  rw [iter_try (p := fun _ => true) (t := 0) (u := 0) (xs := hs) (r0 := []) (r := [nums (both fX gX (crnR hs hs.length)), nums (both fY gY (crnR hs hs.length))]) (st := fun i => [I i, nums (both fX gX (crnR hs i)), nums (both fY gY (crnR hs i))])]
  · simp [denVK, T.denV, denL, E.den, D.den1, binD, nums]
    generalize crnR hs hs.length = ds at hc hcl ⊢
    cases ds with
    | nil => simp [both, denVK, T.denV, denL, E.den, D.cells]
    | cons c cs =>
      rw [List.length_cons] at hcl
      have b1 := e58b (f := fX) (g := gX) c cs (by omega) (fun x hx => fg_le (hc x hx).2)
      have b2 := e58b (f := fY) (g := gY) c cs (by omega) (fun x hx => fg_le (hc x hx).2)
      have n0 : (both fX gX (c :: cs)).length = 2 * cs.length + 2 := by rw [both_len, List.length_cons]; omega
      have n1 : ¬ ((2 * (cs.length : Int) + 2 : Int) = 0) := by omega
      have n2 : both fX gX (c :: cs) ≠ [] := by simp [both]
      simp only [nums, I] at b1 b2
      simp [n2, n0, n1, b1, b2, T.denV, denVK, denL, E.den, D.cells, D.flat, D.flat0]
  · simp [crnR, both, nums]
  · intro i h hi
    obtain ⟨hlt, rfl⟩ := List.getElem?_eq_some_iff.1 hi
    have hi' : (i : Int) < hs.length := by omega
    have hcl := crnR_le hs i (by omega)
    have hii : i * i ≤ 40 * 40 := Nat.mul_le_mul (by omega) (by omega)
    have hlti : (hs.take i).length = i := by rw [List.length_take]; omega
    have h3 : ∀ l : List Hf, l.all ((fun y => y.length == 3) ∘ Hf.d) = true := fun l => by simp [Hf.d]
    simp [-List.map_take, ← List.map_take, h3, Function.comp_def, hi', hlt, idx_nat hlt, upto_nat (Nat.le_of_lt hlt), hi, Hf.d, nums, partD, D.cells, outOf]
    rw [iter_try (p := fun _ => true) (t := 0) (u := 0) (xs := hs.take i) (r0 := []) (r := [nums (both fX gX (crnR hs i ++ rowR hs hs[i] i)), nums (both fY gY (crnR hs i ++ rowR hs hs[i] i))])
      (st := fun j => [I j, nums (both fX gX (crnR hs i ++ rowR hs hs[i] j)), nums (both fY gY (crnR hs i ++ rowR hs hs[i] j))])]
    · rw [crnR_succ hi]
      simp [denVK, T.denV, E.den, denL, D.den1, binD, nums, wrapN (show i < 9223372036854775807 by omega)]
    · simp [rowR, nums]
    · intro j g hj
      obtain ⟨hlj, rfl⟩ := List.getElem?_eq_some_iff.1 hj
      have hji : j < i := by omega
      have hjs : j < hs.length := by omega
      have hji' : (j : Int) < i := by omega
      have hjm : j < min i hs.length := by omega
      have hj' : (List.take i hs)[j]? = some hs[j] := by rw [hj, List.getElem_take]
      have hg := hin hs[i] (List.getElem_mem hlt)
      have hh' := hin hs[j] (List.getElem_mem hjs)
      have hrl := rowR_le hs hs[i] j
      have hI := crossIn hg hh'
      have e93' := e93 hg hh'
      have e66' := e66c (cross hs[i] hs[j]) hs hI hin hl
      rw [rowR_succ (List.getElem?_eq_getElem hjs), cor_of, good]
      have hx := hI.x
      have hy := hI.y
      simp only [Hf.d, Cr.d, hfs, I] at e93' e66'
      have capx : ((both fX gX (crnR hs i ++ rowR hs hs[i] j)).length + 2 + 1) * 9 ≤ 1099511627776 := capb (by rw [both_len, List.length_append]; omega)
      have capy : ((both fY gY (crnR hs i ++ rowR hs hs[i] j)).length + 2 + 1) * 9 ≤ 1099511627776 := capb (by rw [both_len, List.length_append]; omega)
      generalize hs.all (cross hs[i] hs[j]).isIn = b at e66' ⊢
      simp only [← List.append_assoc]
      generalize crnR hs i ++ rowR hs hs[i] j = L at capx capy ⊢
      by_cases hp : 0 < (cross hs[i] hs[j]).p
      · have q1 := e56 hp (n := (cross hs[i] hs[j]).x) (by omega)
        have q2 := e57 hp (n := (cross hs[i] hs[j]).x) (by omega)
        have q3 := e56 hp (n := (cross hs[i] hs[j]).y) (by omega)
        have q4 := e57 hp (n := (cross hs[i] hs[j]).y) (by omega)
        simp only [I] at q1 q2 q3 q4
        cases b
        · simp [-List.map_take, ← List.map_take, binD, hji, hji', hjs, hlt, hjm, idx_nat hjm, hj', Hf.d, nums, partD, D.cells, D.flat, D.flat0, unD, e93', e66', hp, outOf, denVK, T.denV, denL, E.den, D.den1, wrapN (show j < 9223372036854775807 by omega)]
        · simp [-List.map_take, ← List.map_take, binD, hji, hji', hjs, hlt, hjm, idx_nat hjm, hj', Hf.d, nums, partD, D.cells, D.flat, D.flat0, unD, e93', e66', hp, q1, q2, q3, q4, capx, capy, fillD, outOf, denVK, T.denV, denL, E.den, D.den1, wrapN (show j < 9223372036854775807 by omega)]
          simp [both, fX, gX, fY, gY]
      · simp [-List.map_take, ← List.map_take, binD, hji, hji', hjs, hlt, hjm, idx_nat hjm, hj', Hf.d, nums, partD, D.cells, D.flat, D.flat0, unD, e93', hp, outOf, denVK, T.denV, denL, E.den, D.den1, wrapN (show j < 9223372036854775807 by omega)]
    · simp [outOf, denL, E.den, hlti, Nat.min_eq_left (Nat.le_of_lt hlt), binD]
  · simp [outOf, denL, E.den]
end Go.Q
