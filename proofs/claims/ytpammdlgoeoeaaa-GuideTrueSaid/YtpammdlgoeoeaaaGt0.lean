/- Guide: who sees what, and where he is. -/
import Derived.Test.YtpammdlgoeoeaaaGh1
import Derived.Test.YtpammdlgoeoeaaaGg8
set_option linter.unusedVariables false
set_option linter.unusedSimpArgs false
namespace Go.Q
open Go.V
/-- The place of a caravan. -/
def pt (x y : Int) : Cr := ⟨x, y, 1⟩
def inP (hs : List Hf) (x y : Int) : Bool := hs.all fun h => decide (h.a * x + h.b * y ≤ h.c)
theorem inP_iff {hs : List Hf} {x y : Int} : inP hs x y = true ↔ (pt x y).inA hs := by
  simp [inP, Cr.inA, pt]
theorem e41 (hs : List Hf) (x y : Int) (hh : ∀ h ∈ hs, h.In) (hl : hs.length ≤ 40) (hx : -20000000000 ≤ x ∧ x ≤ 20000000000) (hy : -20000000000 ≤ y ∧ y ≤ 20000000000) : evL FN 41 [.node [hfs hs], I x, I y] = some (.bool (inP hs x y)) := by
  refine evL_of (F := F41) rfl ?_
  unfold inP
  simp [F41, Fn.denV, fits, T.denV, denVK, denL, E.den, D.cells, hfs, D.den1, binD, -List.all_eq_true]
  rw [iter_all (p := fun h : Hf => decide (h.a * x + h.b * y ≤ h.c)) (t := 0) (u := 1) (xs := hs)]
  · cases hs.all fun h : Hf => decide (h.a * x + h.b * y ≤ h.c) <;> simp [denVK, T.denV, E.den]
  · intro i h hi
    obtain ⟨hlt, rfl⟩ := List.getElem?_eq_some_iff.1 hi
    have hI := hh _ (List.getElem_mem hlt)
    have hlt' : (i : Int) < hs.length := by omega
    have m1 := mulB hI.a hx
    have m2 := mulB hI.b hy
    have w1 := wrapI (x := hs[i].a * x) (by omega)
    have w2 := wrapI (x := hs[i].b * y) (by omega)
    have w3 := wrapI (x := hs[i].a * x + hs[i].b * y) (by omega)
    by_cases c : hs[i].a * x + hs[i].b * y ≤ hs[i].c
    · have c' : ¬ hs[i].c < hs[i].a * x + hs[i].b * y := by omega
      simp [hlt, hlt', idx_nat hlt, hi, Hf.d, partD, D.cells, w1, w2, w3, c, c', outOf, denL, E.den, wrapN (show i < 9223372036854775807 by omega)]
    · have c' : hs[i].c < hs[i].a * x + hs[i].b * y := by omega
      simp [hlt, hlt', idx_nat hlt, hi, Hf.d, partD, D.cells, w1, w2, w3, c, c', outOf, denL, E.den]
  · simp [outOf, denL]
/-- Whether a look is true at a place. -/
def seenS (l : Lk) (x y : Int) : Bool :=
  if l.k = 1 then decide (0 ≤ l.fx * (l.y - y) - l.fy * (l.x - x)) && decide (0 ≤ (l.x - x) * l.ty - (l.y - y) * l.tx)
  else if l.k = 2 then decide (l.n ≤ y) && decide (y ≤ l.n') else decide (max (l.x - x) (max (x - l.x) (max (l.y - y) (y - l.y))) ≤ l.f)
theorem e43 {l : Lk} {x y : Int} (h : l.ok = true) (hx : -20000000000 ≤ x ∧ x ≤ 20000000000) (hy : -20000000000 ≤ y ∧ y ≤ 20000000000) : evL FN 43 [.node l.c, I x, I y] = some (.bool (seenS l x y)) := by
  refine evL_of (F := F43) rfl ?_
  unfold seenS
  rcases l.okC h with ⟨k, h1, h2, h3, -⟩ | ⟨k, h1⟩ | ⟨k, h1⟩
  · have i0 := plIn h1
    have i1 := crsIn h2
    have i2 := crsIn h3
    have m1 := mulB i1.1 (show -20010000000 ≤ l.y - y ∧ l.y - y ≤ 20010000000 by omega)
    have m2 := mulB i1.2 (show -20010000000 ≤ l.x - x ∧ l.x - x ≤ 20010000000 by omega)
    have m3 := mulB (show -20010000000 ≤ l.x - x ∧ l.x - x ≤ 20010000000 by omega) i2.2
    have m4 := mulB (show -20010000000 ≤ l.y - y ∧ l.y - y ≤ 20010000000 by omega) i2.1
    have w1 := wrapI (x := l.x - x) (by omega)
    have w2 := wrapI (x := l.y - y) (by omega)
    have w3 := wrapI (x := l.fx * (l.y - y)) (by omega)
    have w4 := wrapI (x := l.fy * (l.x - x)) (by omega)
    have w5 := wrapI (x := (l.x - x) * l.ty) (by omega)
    have w6 := wrapI (x := (l.y - y) * l.tx) (by omega)
    have w7 := wrapI (x := l.fx * (l.y - y) - l.fy * (l.x - x)) (by omega)
    have w8 := wrapI (x := (l.x - x) * l.ty - (l.y - y) * l.tx) (by omega)
    by_cases c : l.fy * (l.x - x) ≤ l.fx * (l.y - y) <;>
      simp [Lk.c, k, F43, Fn.denV, fits, T.denV, denVK, denL, E.den, D.cells, D.den1, binD, outOf, w1, w2, w3, w4, w5, w6, w7, w8, c]
  · by_cases c : l.n ≤ y <;>
      simp [Lk.c, k, F43, Fn.denV, fits, T.denV, denVK, denL, E.den, D.cells, D.den1, binD, outOf, c]
  · have hA := askIn h1
    have w1 := wrapI (x := l.x - x) (by omega)
    have w2 := wrapI (x := x - l.x) (by omega)
    have w3 := wrapI (x := l.y - y) (by omega)
    have w4 := wrapI (x := y - l.y) (by omega)
    have n2 : ∀ a b : Int, mxD true (.int .i64 a) (.int .i64 b) = some (.int .i64 (max a b)) := maxD
    simp [Lk.c, k, F43, Fn.denV, fits, T.denV, denVK, denL, E.den, D.cells, D.den1, binD, mxLD, n2, outOf, w1, w2, w3, w4]
/-- What is seen is true of the halves of the look. -/
theorem seen_hv {l : Lk} {x y : Int} (h : l.ok = true) (hs : seenS l x y = true) : ∀ k ∈ l.hv, k.a * x + k.b * y ≤ k.c := by
  unfold seenS at hs
  unfold Lk.hv
  rcases l.okC h with ⟨e, h1, h2, h3, -⟩ | ⟨e, h1⟩ | ⟨e, h1⟩
  · rw [if_pos e] at hs ⊢
    simp only [Bool.and_eq_true, decide_eq_true_eq] at hs
    intro k hk
    simp only [List.mem_cons, List.not_mem_nil, or_false] at hk
    have e1 : l.fx * (l.y - y) = l.fx * l.y - l.fx * y := Int.mul_sub _ _ _
    have e2 : l.fy * (l.x - x) = l.fy * l.x - l.fy * x := Int.mul_sub _ _ _
    have e3 : (l.x - x) * l.ty = l.ty * l.x - l.ty * x := by rw [Int.mul_comm, Int.mul_sub]
    have e4 : (l.y - y) * l.tx = l.tx * l.y - l.tx * y := by rw [Int.mul_comm, Int.mul_sub]
    rcases hk with rfl | rfl
    · simp only [Int.neg_mul]
      omega
    · simp only [Int.neg_mul]
      omega
  · rw [if_neg (by omega), if_pos e] at hs ⊢
    simp only [Bool.and_eq_true, decide_eq_true_eq] at hs
    intro k hk
    simp only [List.mem_cons, List.not_mem_nil, or_false] at hk
    rcases hk with rfl | rfl <;> simp only <;> omega
  · rw [if_neg (by omega), if_neg (by omega)] at hs ⊢
    simp only [decide_eq_true_eq] at hs
    intro k hk
    simp only [nr, sides, List.mem_cons, List.not_mem_nil, or_false] at hk
    rcases hk with rfl | rfl | rfl | rfl <;> simp only <;> omega
def wiS (x y : Int) : Bool := decide (-10000000000 < min x y) && decide (max x y ≤ 10000000000)
theorem e40 (x y : Int) (hx : -9223372036854775808 ≤ x ∧ x ≤ 9223372036854775807) (hy : -9223372036854775808 ≤ y ∧ y ≤ 9223372036854775807) : ∃ b, evL FN 40 [I x, I y] = some (.bool b) ∧ (b = true → (-10000000000 ≤ x ∧ x ≤ 10000000000) ∧ (-10000000000 ≤ y ∧ y ≤ 10000000000)) := by
  have n1 : ∀ a b : Int, mxD false (.int .i64 a) (.int .i64 b) = some (.int .i64 (min a b)) := minD
  have n2 : ∀ a b : Int, mxD true (.int .i64 a) (.int .i64 b) = some (.int .i64 (max a b)) := maxD
  generalize hX : IntKind.i64.wrap (-x) = X
  generalize hY : IntKind.i64.wrap (-y) = Y
  by_cases a1 : max x (max X (max y Y)) ≤ 10000000000
  · refine ⟨decide (-10000000000 < min x y), evL_of (F := F40) rfl ?_, fun h => ?_⟩
    · simp [F40, Fn.denV, fits, T.denV, denVK, denL, E.den, D.cells, D.den1, binD, unD, mxLD, n1, n2, outOf, hX, hY, a1]
    · have := of_decide_eq_true h
      omega
  · refine ⟨false, evL_of (F := F40) rfl ?_, fun h => by cases h⟩
    simp [F40, Fn.denV, fits, T.denV, denVK, denL, E.den, D.cells, D.den1, binD, unD, mxLD, n1, n2, outOf, hX, hY, a1]
/-- What is said to be near is, and what is said not to be is not. -/
theorem kn_true {hs : List Hf} {x y px py f : Int} (hin : ∀ h ∈ hs, h.In) (hS : Sided hs) (hp : (pt x y).inA hs) :
    (kn hs (nr px py f) = 2 → max (px - x) (max (x - px) (max (py - y) (y - py))) ≤ f) ∧ (kn hs (nr px py f) = 0 → ¬ max (px - x) (max (x - px) (max (py - y) (y - py))) ≤ f) := by
  have hpl : hasPl hs = true := (hasPl_sided hS).2 ⟨_, hp⟩
  constructor
  · intro h
    rw [kn_two hS hpl] at h
    cases e : crnR hs hs.length with
    | nil => rw [crn_nil.1 e] at hpl; cases hpl
    | cons c cs =>
      rw [e] at h
      have hpp : ∀ d ∈ c :: cs, 0 < d.p := fun d hd => (crn_inA (e ▸ hd)).1
      have hb := (bnd_near hpp).2 h
      have hi := in_bounds hS e hp
      simp only [pt, Int.mul_one] at hi
      omega
  · intro h hn
    rw [kn_zero] at h
    have : hasPl (hs ++ nr px py f) = true := by
      refine (hasPl_sided (hS.mono fun x hx => by simp [hx])).2 ⟨pt x y, inA_append hp ?_⟩
      rw [nr_all]
      simp only [pt, Int.mul_one, Bool.and_eq_true, decide_eq_true_eq]
      omega
    rw [h] at this; cases this
end Go.Q
