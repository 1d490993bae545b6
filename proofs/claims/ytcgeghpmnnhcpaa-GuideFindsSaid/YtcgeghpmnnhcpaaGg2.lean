/- Guide: near for sure just if the bounds are near. -/
import Derived.Test.YtcgeghpmnnhcpaaGg0
import Derived.Test.YtcgeghpmnnhcpaaGg1
import Derived.Test.YtcgeghpmnnhcpaaGd1
set_option linter.unusedVariables false
set_option linter.unusedSimpArgs false
namespace Go.Q
open Go.V
theorem e74u (hs : List Hf) : evL FN 74 [.node [hfs hs]] = some (.bool (okA hs)) := by
  by_cases h : hs.length ≤ 40
  · exact e74 hs (by omega)
  · refine evL_of (F := F74) rfl ?_
    have hr := e82 hs.length 4 40
    have h2' : ¬ hs.length ≤ 40 := h
    have hr' : inR hs.length 4 40 = false := by simp [inR]; omega
    rw [hr'] at hr
    simp only [I] at hr
    simp [okA, h2', F74, Fn.denV, fits, T.denV, denVK, denL, E.den, hfs, D.cells, D.den1, binD, unD, outOf, hr]
theorem e34u (hs : List Hf) : evL FN 34 [.node [hfs hs]] = some (I (if okA hs then 0 else 40)) := by
  refine evL_of (F := F34) rfl ?_
  have h := e74u hs
  simp only [hfs] at h ⊢
  cases e : okA hs <;> rw [e] at h <;> simp [F34, Fn.denV, fits, T.denV, denVK, denL, E.den, D.cells, D.den1, unD, outOf, h]
theorem foldl_min_ge {f : Cr → Int} : ∀ (cs : List Cr) (m a : Int), m ≤ cs.foldl (fun m c => min m (f c)) a ↔ m ≤ a ∧ ∀ d ∈ cs, m ≤ f d
  | [], m, a => by simp
  | c :: cs, m, a => by
    rw [List.foldl_cons, foldl_min_ge cs]
    constructor
    · rintro ⟨h1, h2⟩
      refine ⟨by omega, fun d hd => ?_⟩
      rcases List.mem_cons.1 hd with rfl | hd
      · omega
      · exact h2 d hd
    · rintro ⟨h1, h2⟩
      exact ⟨by have := h2 c (by simp); omega, fun d hd => h2 d (by simp [hd])⟩
theorem foldl_max_le {f : Cr → Int} : ∀ (cs : List Cr) (m a : Int), cs.foldl (fun m c => max m (f c)) a ≤ m ↔ a ≤ m ∧ ∀ d ∈ cs, f d ≤ m
  | [], m, a => by simp
  | c :: cs, m, a => by
    rw [List.foldl_cons, foldl_max_le cs]
    constructor
    · rintro ⟨h1, h2⟩
      refine ⟨by omega, fun d hd => ?_⟩
      rcases List.mem_cons.1 hd with rfl | hd
      · omega
      · exact h2 d hd
    · rintro ⟨h1, h2⟩
      exact ⟨by have := h2 c (by simp); omega, fun d hd => h2 d (by simp [hd])⟩
theorem lo2_ge {f g : Cr → Int} {c : Cr} {cs : List Cr} {m : Int} : m ≤ lo2 f g c cs ↔ ∀ d ∈ c :: cs, m ≤ f d := by
  unfold lo2
  rw [foldl_min_ge]
  simp
theorem hi2_le {f g : Cr → Int} {c : Cr} {cs : List Cr} {m : Int} : hi2 f g c cs ≤ m ↔ ∀ d ∈ c :: cs, g d ≤ m := by
  unfold hi2
  rw [foldl_max_le]
  simp
theorem fX_ge {c : Cr} (hp : 0 < c.p) {m : Int} : m ≤ fX c ↔ m * c.p ≤ c.x := Int.le_ediv_iff_mul_le hp
theorem fY_ge {c : Cr} (hp : 0 < c.p) {m : Int} : m ≤ fY c ↔ m * c.p ≤ c.y := Int.le_ediv_iff_mul_le hp
theorem gX_le {c : Cr} (hp : 0 < c.p) {m : Int} : gX c ≤ m ↔ c.x ≤ m * c.p := by
  have h : -m ≤ -c.x / c.p ↔ -m * c.p ≤ -c.x := Int.le_ediv_iff_mul_le hp
  rw [Int.neg_mul] at h
  unfold gX
  omega
theorem gY_le {c : Cr} (hp : 0 < c.p) {m : Int} : gY c ≤ m ↔ c.y ≤ m * c.p := by
  have h : -m ≤ -c.y / c.p ↔ -m * c.p ≤ -c.y := Int.le_ediv_iff_mul_le hp
  rw [Int.neg_mul] at h
  unfold gY
  omega
/-- The bounds are near just if all corners are. -/
theorem bnd_near {x y f : Int} {c : Cr} {cs : List Cr} (hp : ∀ d ∈ c :: cs, 0 < d.p) :
    (x - f ≤ lo2 fX gX c cs ∧ hi2 fX gX c cs ≤ x + f ∧ y - f ≤ lo2 fY gY c cs ∧ hi2 fY gY c cs ≤ y + f) ↔ (c :: cs).all (fun d => (nr x y f).all d.isIn) = true := by
  rw [lo2_ge, hi2_le, lo2_ge, hi2_le, List.all_eq_true]
  constructor
  · rintro ⟨h1, h2, h3, h4⟩ d hd
    rw [nr_all]
    simp only [Bool.and_eq_true, decide_eq_true_eq]
    exact ⟨(gX_le (hp d hd)).1 (h2 d hd), (fX_ge (hp d hd)).1 (h1 d hd), (gY_le (hp d hd)).1 (h4 d hd), (fY_ge (hp d hd)).1 (h3 d hd)⟩
  · intro h
    have key : ∀ d ∈ c :: cs, d.x ≤ (x + f) * d.p ∧ (x - f) * d.p ≤ d.x ∧ d.y ≤ (y + f) * d.p ∧ (y - f) * d.p ≤ d.y := fun d hd => by
      have := h d hd
      rw [nr_all] at this
      simpa only [Bool.and_eq_true, decide_eq_true_eq] using this
    exact ⟨fun d hd => (fX_ge (hp d hd)).2 (key d hd).2.1, fun d hd => (gX_le (hp d hd)).2 (key d hd).1, fun d hd => (fY_ge (hp d hd)).2 (key d hd).2.2.2, fun d hd => (gY_le (hp d hd)).2 (key d hd).2.2.1⟩
theorem inA_append {c : Cr} {hs ks : List Hf} (h1 : c.inA hs) (h2 : ks.all c.isIn = true) : c.inA (hs ++ ks) := by
  refine ⟨h1.1, fun h hm => ?_⟩
  rcases List.mem_append.1 hm with hm | hm
  · exact h1.2 h hm
  · have := List.all_eq_true.1 h2 h hm
    simpa [Cr.isIn] using this
/-- Near for sure: all corners are. -/
theorem kn_two {hs ks : List Hf} (hS : Sided hs) (hpl : hasPl hs = true) : kn hs ks = 2 ↔ (crnR hs hs.length).all (fun c => ks.all c.isIn) = true := by
  unfold kn
  constructor
  · intro h
    split at h
    · cases h
    · split at h
      · assumption
      · cases h
  · intro h
    have : hasPl (hs ++ ks) = true := by
      cases e : crnR hs hs.length with
      | nil => rw [crn_nil.1 e] at hpl; cases hpl
      | cons c cs =>
        have hc : c ∈ crnR hs hs.length := by rw [e]; simp
        have hS' : Sided (hs ++ ks) := hS.mono fun x hx => by simp [hx]
        exact (hasPl_sided hS').2 ⟨c, inA_append (crn_inA hc) (List.all_eq_true.1 h c hc)⟩
    rw [this, h]
    simp
theorem kn_zero {hs ks : List Hf} : kn hs ks = 0 ↔ hasPl (hs ++ ks) = false := by
  unfold kn
  split
  · simp [*]
  · rename_i h
    simp only [h, iff_false]
    split <;> simp
theorem kn_cases2 (hs os : List Hf) : kn hs os = 0 ∨ kn hs os = 1 ∨ kn hs os = 2 := by
  unfold kn
  split
  · exact .inl rfl
  · split
    · exact .inr (.inr rfl)
    · exact .inr (.inl rfl)
def nl (x y f : Int) : Lk := ⟨3, x, y, 0, 0, 0, 0, 0, 0, f⟩
set_option maxHeartbeats 3200000 in
theorem e11 (hs : List Hf) (x y f : Int) : evL FN 11 [.node [hfs hs], I x, I y, I f] = some (.bool true) := by
  refine evL_of (F := F11) rfl ?_
  have h34 := e34u hs
  simp only [hfs, I] at h34
  cases k1 : okA hs
  · rw [k1] at h34
    simp [F11, Fn.denV, fits, T.denV, denVK, denL, E.den, D.cells, hfs, D.den1, binD, unD, outOf, e14, h34]
  rw [k1] at h34
  obtain ⟨hin, hlen⟩ := okA_in k1
  have n1 : ∀ a b : Int, mxD false (.int .i64 a) (.int .i64 b) = some (.int .i64 (min a b)) := minD
  have n2 : ∀ a b : Int, mxD true (.int .i64 a) (.int .i64 b) = some (.int .i64 (max a b)) := maxD
  by_cases k2 : askOK x y f = true
  rotate_left
  · generalize hX : IntKind.i64.wrap (-x) = X
    generalize hY : IntKind.i64.wrap (-y) = Y
    by_cases a1 : 10000000 < max x (max X (max y Y))
    · simp [F11, Fn.denV, fits, T.denV, denVK, denL, E.den, D.cells, hfs, D.den1, binD, unD, mxLD, n1, n2, outOf, e14, h34, hX, hY, a1]
    by_cases a2 : min x y < -10000000
    · simp [F11, Fn.denV, fits, T.denV, denVK, denL, E.den, D.cells, hfs, D.den1, binD, unD, mxLD, n1, n2, outOf, e14, h34, hX, hY, a1, a2]
    by_cases a3 : f < 0
    · simp [F11, Fn.denV, fits, T.denV, denVK, denL, E.den, D.cells, hfs, D.den1, binD, unD, mxLD, n1, n2, outOf, e14, h34, hX, hY, a1, a2, a3]
    by_cases a4 : 10000000 < f
    · simp [F11, Fn.denV, fits, T.denV, denVK, denL, E.den, D.cells, hfs, D.den1, binD, unD, mxLD, n1, n2, outOf, e14, h34, hX, hY, a1, a2, a3, a4]
    exfalso
    apply k2
    simp [askOK, plOK, inR]
    omega
  have hA := askIn k2
  have w1 := wrapI (x := -x) (by omega)
  have w2 := wrapI (x := -y) (by omega)
  have a1 : ¬ 10000000 < max x (max (-x) (max y (-y))) := by omega
  have a2 : ¬ min x y < -10000000 := by omega
  have a3 : ¬ f < 0 := by omega
  have a4 : ¬ 10000000 < f := by omega
  have u1 := wrapI (x := x - f) (by omega)
  have u2 := wrapI (x := x + f) (by omega)
  have u3 := wrapI (x := y - f) (by omega)
  have u4 := wrapI (x := y + f) (by omega)
  have h19 := e19 hs (by omega)
  have h20 := e20 hs x y f (by omega)
  have h15 := e15 hs (nl x y f) (by omega)
  have hS := okA_sided k1
  unfold bndD at h19
  cases k3 : hasPl hs
  · have hn : crnR hs hs.length = [] := crn_nil.2 k3
    have hb : bndS hs = ((0, 0), (0, 0), 43) := by simp [bndS, k1, hn]
    have hN : nearS hs x y f = (0, 43) := by simp [nearS, k1, k2, k3]
    rw [hb] at h19
    rw [hN] at h20
    simp only [hfs, I, U8] at h19 h20
    simp [F11, Fn.denV, fits, T.denV, denVK, denL, E.den, D.cells, hfs, D.den1, binD, unD, mxLD, n1, n2, outOf, e14, h34, w1, w2, a1, a2, a3, a4, h19, h20]
  obtain ⟨c, cs, hcs⟩ : ∃ c cs, crnR hs hs.length = c :: cs := by
    cases e : crnR hs hs.length with
    | nil => rw [crn_nil.1 e] at k3; cases k3
    | cons c cs => exact ⟨c, cs, rfl⟩
  have hb : bndS hs = ((lo2 fX gX c cs, hi2 fX gX c cs), (lo2 fY gY c cs, hi2 fY gY c cs), 0) := by simp [bndS, k1, hcs]
  have hp : ∀ d ∈ c :: cs, 0 < d.p := fun d hd => (crn_in hin (by rw [hcs]; exact hd)).2
  have key := (bnd_near (x := x) (y := y) (f := f) hp)
  rw [← hcs, ← kn_two hS k3] at key
  have hz := kn_zero (hs := hs) (ks := nr x y f)
  have hc3 := kn_cases2 hs (nr x y f)
  rw [hb] at h19
  rw [nearS, k1, k2, k3] at h20
  have hlk : (nl x y f).ok = true := k2
  have hhv : (nl x y f).hv = nr x y f := rfl
  unfold seeS at h15
  rw [k1, hlk, hhv] at h15
  generalize lo2 fX gX c cs = b1 at *
  generalize hi2 fX gX c cs = b2 at *
  generalize lo2 fY gY c cs = b3 at *
  generalize hi2 fY gY c cs = b4 at *
  generalize kn hs (nr x y f) = k at *
  generalize hs ++ nr x y f = ms at *
  simp only [hfs, I, U8, nl, Lk.c, Bool.true_eq_false, reduceIte, if_false] at h19 h20 h15
  by_cases c1 : x - f ≤ b1 <;> by_cases c2 : b2 ≤ x + f <;> by_cases c3 : y - f ≤ b3 <;> by_cases c4 : b4 ≤ y + f <;> by_cases c5 : 40 < ms.length <;> cases c6 : hasPl ms <;> simp only [c1, c2, c3, c4, c5, c6, true_and, and_true, and_false, false_and, true_iff, false_iff, reduceCtorEq, iff_false, iff_true, if_true, if_false] at key hz h15 <;>
    rcases hc3 with rfl | rfl | rfl <;> (try (exfalso; revert key hz; decide)) <;>
    simp [F11, Fn.denV, fits, T.denV, denVK, denL, E.den, D.cells, hfs, D.den1, binD, unD, mxLD, n1, n2, outOf, e14, h34, w1, w2, a1, a2, a3, a4, h19, h20, u1, u2, u3, u4, c1, c2, c3, c4, h15, eqDL, eqD1]
end Go.Q
