/- Guide: the reference's valid areas; checks. -/
import Derived.Test.YtcgeghpmnnhcpaaGb2
set_option linter.unusedVariables false
set_option linter.unusedSimpArgs false
namespace Go.Q
open Go.V
theorem e74 (hs : List Hf) (hl : hs.length < 9223372036854775807) : evL FN 74 [.node [hfs hs]] = some (.bool (okA hs)) := by
  refine evL_of (F := F74) rfl ?_
  have hr := e82 hs.length 4 40
  by_cases h1 : (hs.length : Int) < 4
  · have h1' : ¬ 4 ≤ hs.length := by omega
    have hr' : inR hs.length 4 40 = false := by simp [inR]; omega
    rw [hr'] at hr
    simp only [I] at hr
    simp [okA, h1', F74, Fn.denV, fits, T.denV, denVK, denL, E.den, hfs, D.cells, D.den1, binD, unD, outOf, hr]
  by_cases h2 : 40 < (hs.length : Int)
  · have h2' : ¬ hs.length ≤ 40 := by omega
    have hr' : inR hs.length 4 40 = false := by simp [inR]; omega
    rw [hr'] at hr
    simp only [I] at hr
    simp [okA, h2', F74, Fn.denV, fits, T.denV, denVK, denL, E.den, hfs, D.cells, D.den1, binD, unD, outOf, hr]
  have hr' : inR hs.length 4 40 = true := by simp [inR]; omega
  rw [hr'] at hr
  simp only [I] at hr
  have h4 : 4 ≤ hs.length := by omega
  have h40 : hs.length ≤ 40 := by omega
  simp [F74, Fn.denV, fits, T.denV, denVK, denL, E.den, hfs, D.cells, D.den1, binD, unD, outOf, hr]
  rw [iter_all (p := Hf.ok) (t := 0) (u := 1) (xs := hs)]
  · unfold okA
    rw [show decide (4 ≤ hs.length) = true by simp [h4], show decide (hs.length ≤ 40) = true by simp [h40]]
    generalize hs.all Hf.ok = b
    cases b
    · simp [denVK, T.denV, E.den]
    obtain ⟨a0, a1, a2, a3, l, rfl⟩ : ∃ a0 a1 a2 a3 l, hs = a0 :: a1 :: a2 :: a3 :: l := by
      match hs, h1 with
      | a0 :: a1 :: a2 :: a3 :: l, _ => exact ⟨a0, a1, a2, a3, l, rfl⟩
      | [], h => exact absurd (by simp) h
      | [_], h => exact absurd (by simp) h
      | [_, _], h => exact absurd (by simp) h
      | [_, _, _], h => exact absurd (by simp) h
    have k0 : (0 : Int) < l.length + 1 + 1 + 1 + 1 := by omega
    have k1 : (1 : Int) < l.length + 1 + 1 + 1 + 1 := by omega
    have k2 : (2 : Int) < l.length + 1 + 1 + 1 + 1 := by omega
    have k3 : (3 : Int) < l.length + 1 + 1 + 1 + 1 := by omega
    rw [show sides 0 0 0 0 = [⟨1, 0, 0⟩, ⟨-1, 0, 0⟩, ⟨0, 1, 0⟩, ⟨0, -1, 0⟩] from rfl]
    simp only [List.all_cons, List.all_nil, List.zipWith_cons_cons, List.zipWith_nil_right, id, Bool.and_true, Hf.par]
    by_cases c1 : a0.a = 1
    rotate_left
    · simp [denVK, T.denV, E.den, binD, D.idx, partD, D.cells, Hf.d, outOf, denL, D.den1, k0, c1]
    by_cases c2 : a0.b = 0
    rotate_left
    · simp [denVK, T.denV, E.den, binD, D.idx, partD, D.cells, Hf.d, outOf, denL, D.den1, k0, k1, c1, c2]
    by_cases c3 : a1.a = -1
    rotate_left
    · simp [denVK, T.denV, E.den, binD, D.idx, partD, D.cells, Hf.d, outOf, denL, D.den1, k0, k1, c1, c2, c3]
    by_cases c4 : a1.b = 0
    rotate_left
    · simp [denVK, T.denV, E.den, binD, D.idx, partD, D.cells, Hf.d, outOf, denL, D.den1, k0, k1, k2, c1, c2, c3, c4]
    by_cases c5 : a2.a = 0
    rotate_left
    · simp [denVK, T.denV, E.den, binD, D.idx, partD, D.cells, Hf.d, outOf, denL, D.den1, k0, k1, k2, c1, c2, c3, c4, c5]
    by_cases c6 : a2.b = 1
    rotate_left
    · simp [denVK, T.denV, E.den, binD, D.idx, partD, D.cells, Hf.d, outOf, denL, D.den1, k0, k1, k2, k3, c1, c2, c3, c4, c5, c6]
    by_cases c7 : a3.a = 0
    rotate_left
    · simp [denVK, T.denV, E.den, binD, D.idx, partD, D.cells, Hf.d, outOf, denL, D.den1, k0, k1, k2, k3, c1, c2, c3, c4, c5, c6, c7]
    by_cases c8 : a3.b = -1 <;>
      simp [denVK, T.denV, E.den, binD, D.idx, partD, D.cells, Hf.d, outOf, denL, D.den1, k0, k1, k2, k3, c1, c2, c3, c4, c5, c6, c7, c8]
  · intro i h hi
    obtain ⟨hlt, rfl⟩ := List.getElem?_eq_some_iff.1 hi
    have ra := e82 (hs[i]).a (-1000) 1000
    have rb := e82 (hs[i]).b (-1000) 1000
    have rc := e82 (hs[i]).c (-100000000000) 100000000000
    simp only [I] at ra rb rc
    unfold Hf.ok
    generalize inR (hs[i]).a (-1000) 1000 = b1 at ra ⊢
    generalize inR (hs[i]).b (-1000) 1000 = b2 at rb ⊢
    generalize inR (hs[i]).c (-100000000000) 100000000000 = b3 at rc ⊢
    by_cases z1 : (hs[i]).a = 0 <;> by_cases z2 : (hs[i]).b = 0 <;> (try simp only [z1] at ra) <;> (try simp only [z2] at rb) <;> cases b1 <;> cases b2 <;> cases b3 <;>
      simp [binD, hlt, idx_nat hlt, hi, Hf.d, partD, D.cells, ra, rb, rc, D.flat, D.flat0, unD, wrapN (show i < 9223372036854775807 by omega), outOf, denL, E.den, z1, z2, denVK, T.denV, D.den1]
  · simp [binD, outOf, denL]
theorem e28 (hs : List Hf) (hl : hs.length < 9223372036854775807) : evL FN 28 [.node [hfs hs]] = some (I (if okA hs then 0 else 40)) := by
  refine evL_of (F := F28) rfl ?_
  have h := e71 hs hl
  simp only [hfs] at h ⊢
  cases e : okA hs <;> rw [e] at h <;> simp [F28, Fn.denV, fits, T.denV, denVK, denL, E.den, D.cells, D.den1, unD, outOf, h]
theorem e34 (hs : List Hf) (hl : hs.length < 9223372036854775807) : evL FN 34 [.node [hfs hs]] = some (I (if okA hs then 0 else 40)) := by
  refine evL_of (F := F34) rfl ?_
  have h := e74 hs hl
  simp only [hfs] at h ⊢
  cases e : okA hs <;> rw [e] at h <;> simp [F34, Fn.denV, fits, T.denV, denVK, denL, E.den, D.cells, D.den1, unD, outOf, h]
theorem tdivC {n b : Int} (hb : 0 < b) : (n.tdiv b = n / b ∧ 0 ≤ n.tmod b ∧ n / b * b ≤ n) ∨ (n.tdiv b = n / b + 1 ∧ n.tmod b < 0 ∧ n < (n / b + 1) * b) := by
  have e := Int.tdiv_eq_ediv (a := n) (b := b)
  have m := Int.tmod_def n b
  have em := Int.mul_ediv_add_emod n b
  have e0 := Int.emod_nonneg n (show b ≠ 0 by omega)
  have e1 := Int.emod_lt_of_pos n hb
  have hs : b.sign = 1 := Int.sign_eq_one_of_pos hb
  rw [hs] at e
  have c1 : n / b * b = b * (n / b) := Int.mul_comm _ _
  split at e
  · left
    have e' : n.tdiv b = n / b := by omega
    rw [e'] at m
    exact ⟨e', by omega, by omega⟩
  · right
    have c2 : (n / b + 1) * b = b * (n / b) + b := by rw [Int.add_mul, c1]; omega
    have c3 : b * (n / b + 1) = b * (n / b) + b := by rw [Int.mul_add]; omega
    rw [e, c3] at m
    exact ⟨e, by omega, by omega⟩
theorem divB {n b B : Int} (hb : 0 < b) (h : -B ≤ n ∧ n ≤ B) : -B ≤ n / b ∧ n / b ≤ B := by
  constructor
  · rw [Int.le_ediv_iff_mul_le hb]
    have : 0 ≤ B * (b - 1) := Int.mul_nonneg (by omega) (by omega)
    rw [Int.mul_sub, Int.mul_one] at this
    rw [Int.neg_mul]; omega
  · have : n / b < B + 1 := by
      rw [Int.ediv_lt_iff_lt_mul hb]
      have : 0 ≤ B * (b - 1) := Int.mul_nonneg (by omega) (by omega)
      rw [Int.mul_sub, Int.mul_one] at this
      rw [Int.add_mul]; omega
    omega
theorem e56 {n b : Int} (hb : 0 < b) (h : -1000000000000000 ≤ n ∧ n ≤ 1000000000000000) : evL FN 56 [I n, I b] = some (I (n / b)) := by
  refine evL_of (F := F56) rfl ?_
  have hB := divB hb h
  have w1 := wrapI (x := n / b) (by omega)
  have w2 := wrapI (x := n / b + 1) (by omega)
  have hz : b ≠ 0 := by omega
  rcases tdivC (n := n) hb with ⟨e1, e2, _⟩ | ⟨e1, e2, _⟩
  · have e3 : ¬ n.tmod b < 0 := by omega
    simp [F56, Fn.denV, fits, T.denV, denVK, denL, E.den, D.den1, binD, hz, e3, e1, w1]
  · have e4 : n / b + 1 - 1 = n / b := by omega
    simp [F56, Fn.denV, fits, T.denV, denVK, denL, E.den, D.den1, binD, hz, e2, e1, w1, w2, e4]
theorem e76 {n b : Int} (hb : 0 < b) (hb' : b ≤ 2000000) (h : -1000000000000000 ≤ n ∧ n ≤ 1000000000000000) : evL FN 76 [I n, I b] = some (I (n / b)) := by
  refine evL_of (F := F76) rfl ?_
  have hB := divB hb h
  have w1 := wrapI (x := n / b) (by omega)
  have w2 := wrapI (x := n / b + 1) (by omega)
  have hz : b ≠ 0 := by omega
  have em := Int.mul_ediv_add_emod n b
  have e0 := Int.emod_nonneg n (show b ≠ 0 by omega)
  have e1 := Int.emod_lt_of_pos n hb
  have c1 : n / b * b = b * (n / b) := Int.mul_comm _ _
  have c2 : (n / b + 1) * b = b * (n / b) + b := by rw [Int.add_mul, c1]; omega
  have w3 := wrapI (x := n / b * b) (by omega)
  have w4 := wrapI (x := (n / b + 1) * b) (by omega)
  rcases tdivC (n := n) hb with ⟨e1, e2, e3⟩ | ⟨e1, e2, e3⟩
  · have e3' : ¬ n < n / b * b := by omega
    simp [F76, Fn.denV, fits, T.denV, denVK, denL, E.den, D.den1, binD, outOf, hz, e1, w1, w3, e3']
  · have e4 : n / b + 1 - 1 = n / b := by omega
    simp [F76, Fn.denV, fits, T.denV, denVK, denL, E.den, D.den1, binD, outOf, hz, e1, w1, w2, w4, e3, e4]
theorem e57 {n b : Int} (hb : 0 < b) (h : -1000000000000000 ≤ n ∧ n ≤ 1000000000000000) : evL FN 57 [I n, I b] = some (I (-(-n / b))) := by
  refine evL_of (F := F57) rfl ?_
  have hB := divB (n := -n) (B := 1000000000000000) hb (by omega)
  have w1 := wrapI (x := -n) (by omega)
  have w2 := wrapI (x := -(-n / b)) (by omega)
  simp [F57, Fn.denV, fits, T.denV, denVK, denL, E.den, D.den1, unD, w1, e56 (n := -n) hb (by omega), w2]
end Go.Q
