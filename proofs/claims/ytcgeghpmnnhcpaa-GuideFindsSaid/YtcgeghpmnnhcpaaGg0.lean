/- Guide: corners are the ends. -/
import Derived.Test.YtcgeghpmnnhcpaaGc0
set_option linter.unusedVariables false
set_option linter.unusedSimpArgs false
namespace Go.Q
open Go.V
/-- An end on each side. -/
structure Sided (hs : List Hf) : Prop where
  e : ∃ h ∈ hs, h.a = 1 ∧ h.b = 0
  w : ∃ h ∈ hs, h.a = -1 ∧ h.b = 0
  n : ∃ h ∈ hs, h.a = 0 ∧ h.b = 1
  s : ∃ h ∈ hs, h.a = 0 ∧ h.b = -1
theorem Sided.ahead {hs : List Hf} (h : Sided hs) {u v : Int} (hd : u ≠ 0 ∨ v ≠ 0) : ∃ k ∈ hs, 0 < k.dot u v := by
  obtain ⟨e, e1, e2, e3⟩ := h.e
  obtain ⟨w, w1, w2, w3⟩ := h.w
  obtain ⟨n, n1, n2, n3⟩ := h.n
  obtain ⟨s, s1, s2, s3⟩ := h.s
  rcases Int.lt_trichotomy u 0 with hu | rfl | hu
  · exact ⟨w, w1, by simp only [Hf.dot, w2, w3]; omega⟩
  · rcases Int.lt_trichotomy v 0 with hv | rfl | hv
    · exact ⟨s, s1, by simp only [Hf.dot, s2, s3]; omega⟩
    · omega
    · exact ⟨n, n1, by simp only [Hf.dot, n2, n3]; omega⟩
  · exact ⟨e, e1, by simp only [Hf.dot, e2, e3]; omega⟩
theorem okA_sided {hs : List Hf} (h : okA hs = true) : Sided hs := by
  simp only [okA, Bool.and_eq_true, decide_eq_true_eq] at h
  obtain ⟨⟨⟨h1, h2⟩, h3⟩, h4⟩ := h
  match hs, h1 with
  | a0 :: a1 :: a2 :: a3 :: l, _ =>
    simp [sides, Hf.par] at h4
    exact ⟨⟨a0, by simp, by omega⟩, ⟨a1, by simp, by omega⟩, ⟨a2, by simp, by omega⟩, ⟨a3, by simp, by omega⟩⟩
  | [], h => simp at h
  | [_], h => simp at h
  | [_, _], h => simp at h
  | [_, _, _], h => simp at h
theorem Sided.mono {hs ks : List Hf} (h : Sided hs) (hm : ∀ x ∈ hs, x ∈ ks) : Sided ks := by
  obtain ⟨e, e1, e2⟩ := h.e
  obtain ⟨w, w1, w2⟩ := h.w
  obtain ⟨n, n1, n2⟩ := h.n
  obtain ⟨s, s1, s2⟩ := h.s
  exact ⟨⟨e, hm _ e1, e2⟩, ⟨w, hm _ w1, w2⟩, ⟨n, hm _ n1, n2⟩, ⟨s, hm _ s1, s2⟩⟩
/-- How far a place is in a direction, against another one. -/
def Cr.far (c q : Cr) (u v : Int) : Prop := (u * q.x + v * q.y) * c.p ≤ (u * c.x + v * c.y) * q.p
theorem far_refl (c : Cr) (u v : Int) : c.far c u v := Int.le_refl _
theorem far_trans {a b c : Cr} {u v : Int} (ha : 0 < a.p) (hb : 0 < b.p) (hc : 0 < c.p) (h1 : a.far b u v) (h2 : b.far c u v) : a.far c u v := by
  unfold Cr.far at *
  generalize u * a.x + v * a.y = A at *
  generalize u * b.x + v * b.y = B at *
  generalize u * c.x + v * c.y = C at *
  have m1 := Int.mul_le_mul_of_nonneg_right h1 (Int.le_of_lt hc)
  have m2 := Int.mul_le_mul_of_nonneg_right h2 (Int.le_of_lt ha)
  refine Int.le_of_mul_le_mul_right (a := b.p) ?_ hb
  have e1 : C * a.p * b.p = C * b.p * a.p := by rw [Int.mul_assoc, Int.mul_comm a.p, ← Int.mul_assoc]
  have e2 : B * c.p * a.p = B * a.p * c.p := by rw [Int.mul_assoc, Int.mul_comm c.p, ← Int.mul_assoc]
  have e3 : A * b.p * c.p = A * c.p * b.p := by rw [Int.mul_assoc, Int.mul_comm b.p, ← Int.mul_assoc]
  omega
/-- Who is pushed on is no less far in a direction that goes with it. -/
theorem push_far {c : Cr} {h : Hf} {u v r s : Int} (hs : 0 ≤ c.slack h) (hp : 0 < c.p) (hd : 0 ≤ r * u + s * v) : (c.push h u v).far c r s := by
  unfold Cr.far
  simp only [Cr.push]
  have e1 : (r * (c.x * h.dot u v + c.slack h * u) + s * (c.y * h.dot u v + c.slack h * v)) = (r * c.x + s * c.y) * h.dot u v + c.slack h * (r * u + s * v) := by
    simp only [Int.mul_add, Int.add_mul]
    have f1 : r * (c.slack h * u) = c.slack h * (r * u) := by rw [← Int.mul_assoc, Int.mul_comm r, Int.mul_assoc]
    have f2 : s * (c.slack h * v) = c.slack h * (s * v) := by rw [← Int.mul_assoc, Int.mul_comm s, Int.mul_assoc]
    have f3 : r * (c.x * h.dot u v) = r * c.x * h.dot u v := (Int.mul_assoc _ _ _).symm
    have f4 : s * (c.y * h.dot u v) = s * c.y * h.dot u v := (Int.mul_assoc _ _ _).symm
    omega
  rw [e1]
  have h3 := Int.add_mul ((r * c.x + s * c.y) * h.dot u v) (c.slack h * (r * u + s * v)) c.p
  have h1 : 0 ≤ c.slack h * (r * u + s * v) * c.p := Int.mul_nonneg (Int.mul_nonneg hs hd) (Int.le_of_lt hp)
  have h2 : (r * c.x + s * c.y) * (c.p * h.dot u v) = (r * c.x + s * c.y) * h.dot u v * c.p := by rw [Int.mul_comm c.p, ← Int.mul_assoc]
  omega
theorem meet_far {c : Cr} {hs : List Hf} (hc : c.inA hs) {g h : Hf} (hg : c.slack g = 0) (hh : c.slack h = 0) (hp : 0 < g.a * h.b - h.a * g.b) (u v : Int) : (cross g h).far c u v := by
  rw [cross_of hp]
  unfold Cr.far
  simp only
  have hx : c.x * (g.a * h.b - h.a * g.b) = c.p * (g.c * h.b - h.c * g.b) := by
    have e1 : g.c * c.p = g.a * c.x + g.b * c.y := by unfold Cr.slack at hg; omega
    have e2 : h.c * c.p = h.a * c.x + h.b * c.y := by unfold Cr.slack at hh; omega
    have e3 : c.p * (g.c * h.b - h.c * g.b) = (g.c * c.p) * h.b - (h.c * c.p) * g.b := by
      rw [Int.mul_sub, ← Int.mul_assoc, ← Int.mul_assoc, Int.mul_comm c.p, Int.mul_comm c.p]
    rw [e3, e1, e2]
    simp only [Int.mul_sub, Int.add_mul]
    have f1 : g.b * c.y * h.b = h.b * c.y * g.b := by rw [Int.mul_assoc, Int.mul_comm g.b, Int.mul_comm c.y]
    have f2 : c.x * (g.a * h.b) = g.a * c.x * h.b := by rw [← Int.mul_assoc, Int.mul_comm c.x]
    have f3 : c.x * (h.a * g.b) = h.a * c.x * g.b := by rw [← Int.mul_assoc, Int.mul_comm c.x]
    omega
  have hy : c.y * (g.a * h.b - h.a * g.b) = c.p * (g.a * h.c - h.a * g.c) := by
    have e1 : g.c * c.p = g.a * c.x + g.b * c.y := by unfold Cr.slack at hg; omega
    have e2 : h.c * c.p = h.a * c.x + h.b * c.y := by unfold Cr.slack at hh; omega
    have e3 : c.p * (g.a * h.c - h.a * g.c) = g.a * (h.c * c.p) - h.a * (g.c * c.p) := by
      rw [Int.mul_sub, Int.mul_comm c.p, Int.mul_comm c.p, Int.mul_assoc, Int.mul_assoc]
    rw [e3, e1, e2]
    simp only [Int.mul_sub, Int.mul_add]
    have f1 : g.a * (h.a * c.x) = h.a * (g.a * c.x) := by rw [← Int.mul_assoc, Int.mul_comm g.a, Int.mul_assoc]
    have f2 : c.y * (g.a * h.b) = g.a * (h.b * c.y) := by rw [Int.mul_comm, Int.mul_assoc]
    have f3 : c.y * (h.a * g.b) = h.a * (g.b * c.y) := by rw [Int.mul_comm, Int.mul_assoc]
    omega
  have e1 : (u * c.x + v * c.y) * (g.a * h.b - h.a * g.b) = c.p * (u * (g.c * h.b - h.c * g.b) + v * (g.a * h.c - h.a * g.c)) := by
    rw [Int.add_mul, Int.mul_assoc, Int.mul_assoc, hx, hy, Int.mul_add]
    have f1 : u * (c.p * (g.c * h.b - h.c * g.b)) = c.p * (u * (g.c * h.b - h.c * g.b)) := by rw [← Int.mul_assoc, Int.mul_comm u, Int.mul_assoc]
    have f2 : v * (c.p * (g.a * h.c - h.a * g.c)) = c.p * (v * (g.a * h.c - h.a * g.c)) := by rw [← Int.mul_assoc, Int.mul_comm v, Int.mul_assoc]
    omega
  rw [e1, Int.mul_comm]
  exact Int.le_refl _
/-- No place is farther than all corners. -/
theorem top {q : Cr} {hs : List Hf} (hq : q.inA hs) (hS : Sided hs) {u v : Int} (hd : u ≠ 0 ∨ v ≠ 0) : ∃ c ∈ crnR hs hs.length, c.far q u v := by
  obtain ⟨g, hg, hg0, hgm⟩ := exists_first q u v hs (hS.ahead hd)
  have h1 := hq.push hg hg0 hgm
  have f1 : (q.push g u v).far q u v := push_far (hq.slack0 hg) hq.1 (by
    have a1 : 0 ≤ u * u := by rcases Int.le_total 0 u with h | h; exact Int.mul_nonneg h h; exact Int.mul_nonneg_of_nonpos_of_nonpos h h
    have a2 : 0 ≤ v * v := by rcases Int.le_total 0 v with h | h; exact Int.mul_nonneg h h; exact Int.mul_nonneg_of_nonpos_of_nonpos h h
    omega)
  have t1 : (q.push g u v).slack g = 0 := by rw [slack_push]; omega
  generalize q.push g u v = c1 at h1 t1 f1
  have hgz : g.a ≠ 0 ∨ g.b ≠ 0 := by
    rcases Classical.em (g.a = 0 ∧ g.b = 0) with h | h
    · rw [Hf.dot, h.1, h.2] at hg0; omega
    · omega
  -- along the edge, to the side that is no less far
  rcases Int.le_total 0 (u * (-g.b) + v * g.a) with hw | hw
  · obtain ⟨h, hh, hh0, hhm⟩ := exists_first c1 (-g.b) g.a hs (hS.ahead (by omega))
    have h2 := h1.push hh hh0 hhm
    have f2 : (c1.push h (-g.b) g.a).far c1 u v := push_far (h1.slack0 hh) h1.1 hw
    have hz : g.dot (-g.b) g.a = 0 := by simp only [Hf.dot, Int.mul_neg]; rw [Int.mul_comm g.b]; omega
    have t2 : (c1.push h (-g.b) g.a).slack g = 0 := by rw [slack_push, hz, t1]; simp
    have t3 : (c1.push h (-g.b) g.a).slack h = 0 := by rw [slack_push]; omega
    have hp : 0 < g.a * h.b - h.a * g.b := by
      have : h.dot (-g.b) g.a = g.a * h.b - h.a * g.b := by simp only [Hf.dot, Int.mul_neg]; rw [Int.mul_comm h.b]; omega
      omega
    have h3 := h2.meet t2 t3 hp
    exact ⟨cross g h, mem_crn.2 ⟨g, hg, h, hh, good_iff.2 h3, rfl⟩, far_trans h3.1 h2.1 hq.1 (meet_far h2 t2 t3 hp u v) (far_trans h2.1 h1.1 hq.1 f2 f1)⟩
  · obtain ⟨h, hh, hh0, hhm⟩ := exists_first c1 g.b (-g.a) hs (hS.ahead (by omega))
    have h2 := h1.push hh hh0 hhm
    have f2 : (c1.push h g.b (-g.a)).far c1 u v := push_far (h1.slack0 hh) h1.1 (by rw [Int.mul_neg] at hw ⊢; omega)
    have hz : g.dot g.b (-g.a) = 0 := by simp only [Hf.dot, Int.mul_neg]; rw [Int.mul_comm g.b]; omega
    have t2 : (c1.push h g.b (-g.a)).slack g = 0 := by rw [slack_push, hz, t1]; simp
    have t3 : (c1.push h g.b (-g.a)).slack h = 0 := by rw [slack_push]; omega
    have hp : 0 < h.a * g.b - g.a * h.b := by
      have : h.dot g.b (-g.a) = h.a * g.b - g.a * h.b := by simp only [Hf.dot, Int.mul_neg]; rw [Int.mul_comm h.b]; omega
      omega
    have h3 := h2.meet t3 t2 hp
    exact ⟨cross h g, mem_crn.2 ⟨h, hh, g, hg, good_iff.2 h3, rfl⟩, far_trans h3.1 h2.1 hq.1 (meet_far h2 t3 t2 hp u v) (far_trans h2.1 h1.1 hq.1 f2 f1)⟩
theorem crn_inA {hs : List Hf} {c : Cr} (h : c ∈ crnR hs hs.length) : c.inA hs := by
  obtain ⟨g, hg, k, hk, e, rfl⟩ := mem_crn.1 h
  exact good_iff.1 e
theorem hasPl_place {hs : List Hf} (h : hasPl hs = true) : ∃ c : Cr, c.inA hs := by
  obtain ⟨g, hg, k, hk, e⟩ := hasPl_iff.1 h
  exact ⟨_, good_iff.1 e⟩
theorem hasPl_sided {hs : List Hf} (hS : Sided hs) : hasPl hs = true ↔ ∃ c : Cr, c.inA hs := ⟨hasPl_place, fun ⟨c, hc⟩ => hasPl_of hc hS.e hS.n⟩
end Go.Q
