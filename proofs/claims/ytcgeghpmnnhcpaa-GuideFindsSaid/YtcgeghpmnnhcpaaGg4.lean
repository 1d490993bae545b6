/- Guide: the statement that bounds are sharp. -/
import Derived.Test.YtcgeghpmnnhcpaaGg3
set_option linter.unusedVariables false
set_option linter.unusedSimpArgs false
namespace Go.Q
open Go.V
theorem eight_ab {a b c d : Int} {q : Hf × Bool} (hq : q ∈ eight a b c d) (ha : -200000000000000 ≤ a ∧ a ≤ 200000000000000) (hb : -200000000000000 ≤ b ∧ b ≤ 200000000000000) (hc : -200000000000000 ≤ c ∧ c ≤ 200000000000000) (hd : -200000000000000 ≤ d ∧ d ≤ 200000000000000) :
    (-1 ≤ q.1.a ∧ q.1.a ≤ 1) ∧ (-1 ≤ q.1.b ∧ q.1.b ≤ 1) ∧ -200000000000001 ≤ q.1.c ∧ q.1.c ≤ 200000000000001 := by
  simp only [eight, List.mem_cons, List.not_mem_nil, or_false] at hq
  rcases hq with rfl | rfl | rfl | rfl | rfl | rfl | rfl | rfl <;> simp only <;> omega
def rowE (q : Hf × Bool) : List D := [I q.1.a, I q.1.b, I q.1.c, .bool q.2]
theorem bnds_lo {hs : List Hf} (hin : ∀ h ∈ hs, h.In) {c : Cr} {cs : List Cr} (hcs : crnR hs hs.length = c :: cs) :
    (-200000000000000 ≤ lo2 fX gX c cs ∧ lo2 fX gX c cs ≤ 200000000000000) ∧ (-200000000000000 ≤ hi2 fX gX c cs ∧ hi2 fX gX c cs ≤ 200000000000000) ∧ (-200000000000000 ≤ lo2 fY gY c cs ∧ lo2 fY gY c cs ≤ 200000000000000) ∧ (-200000000000000 ≤ hi2 fY gY c cs ∧ hi2 fY gY c cs ≤ 200000000000000) := by
  have hh : ∀ d ∈ c :: cs, d.In ∧ 0 < d.p := fun d hd => crn_in hin (by rw [hcs]; exact hd)
  obtain ⟨d1, m1, e1⟩ := lo2_at (f := fX) (g := gX) (c := c) (cs := cs)
  obtain ⟨d2, m2, e2⟩ := hi2_at (f := fX) (g := gX) (c := c) (cs := cs)
  obtain ⟨d3, m3, e3⟩ := lo2_at (f := fY) (g := gY) (c := c) (cs := cs)
  obtain ⟨d4, m4, e4⟩ := hi2_at (f := fY) (g := gY) (c := c) (cs := cs)
  rw [e1, e2, e3, e4]
  have b1 := divB (hh d1 m1).2 (hh d1 m1).1.x
  have b2 := divB (n := -d2.x) (B := 200000000000000) (hh d2 m2).2 (by have := (hh d2 m2).1.x; omega)
  have b3 := divB (hh d3 m3).2 (hh d3 m3).1.y
  have b4 := divB (n := -d4.y) (B := 200000000000000) (hh d4 m4).2 (by have := (hh d4 m4).1.y; omega)
  unfold fX gX fY gY
  omega
theorem bndS_zero {hs : List Hf} (ho : okA hs = true) : (bndS hs).2.2 = if hasPl hs then 0 else 43 := by
  unfold bndS
  rw [ho]
  cases e : crnR hs hs.length with
  | nil => rw [crn_nil.1 e]; rfl
  | cons c cs =>
    have : hasPl hs = true := by
      cases e2 : hasPl hs
      · rw [crn_nil.2 e2] at e; cases e
      · rfl
    rw [this]; rfl
set_option maxHeartbeats 3200000 in
theorem e8 (hs : List Hf) : evL FN 8 [.node [hfs hs]] = some (.bool true) := by
  refine evL_of (F := F8) rfl ?_
  have h34 := e34u hs
  simp only [hfs, I] at h34
  cases k1 : okA hs
  · rw [k1] at h34
    simp [F8, Fn.denV, fits, T.denV, denVK, denL, E.den, D.cells, hfs, D.den1, binD, unD, outOf, e14, h34]
  rw [k1] at h34
  obtain ⟨hin, hlen⟩ := okA_in k1
  by_cases k2 : hs.length = 40
  · have k2' : (hs.length : Int) = 40 := by omega
    simp [F8, Fn.denV, fits, T.denV, denVK, denL, E.den, D.cells, hfs, D.den1, binD, unD, outOf, e14, h34, k2, k2']
  have k2' : ¬ (hs.length : Int) = 40 := by omega
  have h19 := e19 hs (by omega)
  have hS := okA_sided k1
  unfold bndD at h19
  cases hcs : crnR hs hs.length with
  | nil =>
    have hb : bndS hs = ((0, 0), (0, 0), 43) := by simp [bndS, k1, hcs]
    rw [hb] at h19
    simp only [hfs, I] at h19
    simp [F8, Fn.denV, fits, T.denV, denVK, denL, E.den, D.cells, hfs, D.den1, binD, unD, outOf, e14, h34, k2, k2', h19, eqDL, eqD1]
  | cons c cs =>
    have hb : bndS hs = ((lo2 fX gX c cs, hi2 fX gX c cs), (lo2 fY gY c cs, hi2 fY gY c cs), 0) := by simp [bndS, k1, hcs]
    have hp : ∀ d ∈ c :: cs, 0 < d.p := fun d hd => (crn_in hin (by rw [hcs]; exact hd)).2
    have l1 : ¬ hi2 fX gX c cs < lo2 fX gX c cs := by have := lo2_le_hi2 (f := fX) (g := gX) (c := c) (cs := cs) (fg_le (hp c (by simp))); omega
    have l2 : ¬ hi2 fY gY c cs < lo2 fY gY c cs := by have := lo2_le_hi2 (f := fY) (g := gY) (c := c) (cs := cs) (fg_le (hp c (by simp))); omega
    obtain ⟨q1, q2, q3, q4⟩ := bnds_lo hin hcs
    have h8 := fun q hq => eight_ok hin hS hcs (q := q) hq
    rw [hb] at h19
    generalize lo2 fX gX c cs = b1 at *
    generalize hi2 fX gX c cs = b2 at *
    generalize lo2 fY gY c cs = b3 at *
    generalize hi2 fY gY c cs = b4 at *
    have hab := fun q hq => eight_ab (q := q) (a := b1) (b := b2) (c := b3) (d := b4) hq q1 q2 q3 q4
    have w1 := wrapI (x := b2 - 1) (by omega)
    have w2 := wrapI (x := b2 + 1) (by omega)
    have w3 := wrapI (x := b1 + 1) (by omega)
    have w4 := wrapI (x := b1 - 1) (by omega)
    have w5 := wrapI (x := b4 - 1) (by omega)
    have w6 := wrapI (x := b4 + 1) (by omega)
    have w7 := wrapI (x := b3 + 1) (by omega)
    have w8 := wrapI (x := b3 - 1) (by omega)
    have v1 := wrapI (x := -(b2 - 1)) (by omega)
    have v2 := wrapI (x := -(b2 + 1)) (by omega)
    have v3 := wrapI (x := -(b4 - 1)) (by omega)
    have v4 := wrapI (x := -(b4 + 1)) (by omega)
    have hE : (eight b1 b2 b3 b4).map rowE = [[I (-1), I 0, I (-(b2 - 1)), .bool true], [I (-1), I 0, I (-(b2 + 1)), .bool false], [I 1, I 0, I (b1 + 1), .bool true], [I 1, I 0, I (b1 - 1), .bool false], [I 0, I (-1), I (-(b4 - 1)), .bool true], [I 0, I (-1), I (-(b4 + 1)), .bool false], [I 0, I 1, I (b3 + 1), .bool true], [I 0, I 1, I (b3 - 1), .bool false]] := rfl
    have hL : D.den1 (.listOf 4 8 [.int .i64 (0), .int .i64 (0), .int .i64 (0), .bool false] [0, 1, 2, 3, 4, 5, 6, 7]) [I (-1), I 0, I (-(b2 - 1)), .bool true, I (-1), I 0, I (-(b2 + 1)), .bool false, I 1, I 0, I (b1 + 1), .bool true, I 1, I 0, I (b1 - 1), .bool false, I 0, I (-1), I (-(b4 - 1)), .bool true, I 0, I (-1), I (-(b4 + 1)), .bool false, I 0, I 1, I (b3 + 1), .bool true, I 0, I 1, I (b3 - 1), .bool false] = some (.list ((eight b1 b2 b3 b4).map rowE)) := by
      rw [hE]; rfl
    have h30 := e30 hs (by omega)
    have hlen8 : (eight b1 b2 b3 b4).length = 8 := rfl
    simp only [hfs, I] at h19 hL h30
    generalize eight b1 b2 b3 b4 = L8 at *
    have hB : ∀ op (x y : D), D.den1 (.bin op) [x, y] = binD op x y := fun _ _ _ => rfl
    have hU : ∀ op (x : D), D.den1 (.un op) [x] = unD op x := fun _ _ => rfl
    have hLen : ∀ xs : List (List D), D.den1 .len [.list xs] = some (.int .i64 xs.length) := fun _ => rfl
    simp [F8, Fn.denV, fits, T.denV, denVK, denL, E.den, D.cells, hfs, hB, hU, hLen, hL, binD, unD, outOf, e14, h34, k2, k2', h19, l1, l2, w1, w2, w3, w4, w5, w6, w7, w8, v1, v2, v3, v4, hlen8]
    rw [iter_all (p := fun _ => true) (t := 0) (u := 1) (xs := L8)]
    · simp [denVK, T.denV, E.den]
    · intro i q hi
      obtain ⟨hlt, rfl⟩ := List.getElem?_eq_some_iff.1 hi
      have hmem := List.getElem_mem hlt
      obtain ⟨z1, z2⟩ := h8 _ hmem
      obtain ⟨z3, z4, z5⟩ := hab _ hmem
      have hlt' : (i : Int) < 8 := by omega
      have w := wrapI (x := -L8[i].1.c) (by omega)
      have n2 : ∀ a b : Int, mxD true (.int .i64 a) (.int .i64 b) = some (.int .i64 (max a b)) := maxD
      by_cases c1 : 100000000000 < max L8[i].1.c (-L8[i].1.c)
      · simp [hlt, hlt', idx_nat hlt, hi, rowE, partD, D.cells, D.den1, binD, unD, mxLD, n2, w, c1, outOf, denVK, T.denV, denL, E.den, wrapN (show i < 9223372036854775807 by omega)]
      have hok : (L8[i].1).ok = true := by
        simp only [Hf.ok, inR, Bool.and_eq_true, decide_eq_true_eq, Bool.or_eq_true, bne_iff_ne]
        omega
      have hbo := bnd_ok k1 k2 hok
      have hz := bndS_zero hbo
      rw [z2] at hz
      have h19 := e19 (hs ++ [L8[i].1]) (by simp; omega)
      unfold bndD at h19
      rw [hz] at h19
      have hcap : (hs.length + 1 + 1) * 25 ≤ 1099511627776 := cap25 (by omega)
      generalize bndS (hs ++ [L8[i].1]) = r at h19
      simp only [hfs, I, List.map_append, List.map_cons, List.map_nil, Hf.d] at h19
      cases c2 : L8[i].2 <;> rw [c2] at h19 <;> simp only [if_true, if_false, Bool.false_eq_true] at h19 <;>
        simp [hlt, hlt', idx_nat hlt, hi, rowE, partD, D.cells, D.den1, binD, unD, mxLD, n2, w, c1, c2, h30, h19, hcap, fillD, eqDL, eqD1, D.flat, D.flat0, outOf, denVK, T.denV, denL, E.den, wrapN (show i < 9223372036854775807 by omega)]
    · simp [hlen8, outOf, denL]
end Go.Q
