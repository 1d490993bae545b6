/- Guide: looks; what is near. -/
import Derived.Test.YtpdnchpjolkcfaaKb3
set_option linter.unusedVariables false
set_option linter.unusedSimpArgs false
set_option maxRecDepth 100000
namespace Go.Q
open Go.V
/-- An end on each side. -/
structure Sided (hs : List Hf) : Prop where
  e : ∃ h ∈ hs, h.a = 1 ∧ h.b = 0
  w : ∃ h ∈ hs, h.a = -1 ∧ h.b = 0
  n : ∃ h ∈ hs, h.a = 0 ∧ h.b = 1
  s : ∃ h ∈ hs, h.a = 0 ∧ h.b = -1
theorem Sided.ahead {hs : List Hf} (h : Sided hs) {u v : Int} (hd : u ≠ 0 ∨ v ≠ 0) : ∃ k ∈ hs, 0 < k.dot u v := by
  obtain ⟨e, e1, e2, e3⟩ := h.e
  obtain ⟨w, w1, w2, w3⟩ := h.w
  obtain ⟨n, n1, n2, n3⟩ := h.n
  obtain ⟨s, s1, s2, s3⟩ := h.s
  rcases Int.lt_trichotomy u 0 with hu | rfl | hu
  · exact ⟨w, w1, by simp only [Hf.dot, w2, w3]; omega⟩
  · rcases Int.lt_trichotomy v 0 with hv | rfl | hv
    · exact ⟨s, s1, by simp only [Hf.dot, s2, s3]; omega⟩
    · omega
    · exact ⟨n, n1, by simp only [Hf.dot, n2, n3]; omega⟩
  · exact ⟨e, e1, by simp only [Hf.dot, e2, e3]; omega⟩
theorem okA_sided {hs : List Hf} (h : okA hs = true) : Sided hs := by
  simp only [okA, Bool.and_eq_true, decide_eq_true_eq] at h
  obtain ⟨⟨⟨h1, h2⟩, h3⟩, h4⟩ := h
  match hs, h1 with
  | a0 :: a1 :: a2 :: a3 :: l, _ =>
    simp [sides, Hf.par] at h4
    exact ⟨⟨a0, by simp, by omega⟩, ⟨a1, by simp, by omega⟩, ⟨a2, by simp, by omega⟩, ⟨a3, by simp, by omega⟩⟩
  | [], h => simp at h
  | [_], h => simp at h
  | [_, _], h => simp at h
  | [_, _, _], h => simp at h
theorem Sided.mono {hs ks : List Hf} (h : Sided hs) (hm : ∀ x ∈ hs, x ∈ ks) : Sided ks := by
  obtain ⟨e, e1, e2⟩ := h.e
  obtain ⟨w, w1, w2⟩ := h.w
  obtain ⟨n, n1, n2⟩ := h.n
  obtain ⟨s, s1, s2⟩ := h.s
  exact ⟨⟨e, hm _ e1, e2⟩, ⟨w, hm _ w1, w2⟩, ⟨n, hm _ n1, n2⟩, ⟨s, hm _ s1, s2⟩⟩
/-- How far a place is in a direction, against another one. -/
def Cr.far (c q : Cr) (u v : Int) : Prop := (u * q.x + v * q.y) * c.p ≤ (u * c.x + v * c.y) * q.p
theorem far_refl (c : Cr) (u v : Int) : c.far c u v := Int.le_refl _
theorem far_trans {a b c : Cr} {u v : Int} (ha : 0 < a.p) (hb : 0 < b.p) (hc : 0 < c.p) (h1 : a.far b u v) (h2 : b.far c u v) : a.far c u v := by
  unfold Cr.far at *
  generalize u * a.x + v * a.y = A at *
  generalize u * b.x + v * b.y = B at *
  generalize u * c.x + v * c.y = C at *
  have m1 := Int.mul_le_mul_of_nonneg_right h1 (Int.le_of_lt hc)
  have m2 := Int.mul_le_mul_of_nonneg_right h2 (Int.le_of_lt ha)
  refine Int.le_of_mul_le_mul_right (a := b.p) ?_ hb
  have e1 : C * a.p * b.p = C * b.p * a.p := by rw [Int.mul_assoc, Int.mul_comm a.p, ← Int.mul_assoc]
  have e2 : B * c.p * a.p = B * a.p * c.p := by rw [Int.mul_assoc, Int.mul_comm c.p, ← Int.mul_assoc]
  have e3 : A * b.p * c.p = A * c.p * b.p := by rw [Int.mul_assoc, Int.mul_comm b.p, ← Int.mul_assoc]
  omega
/-- Who is pushed on is no less far in a direction that goes with it. -/
theorem push_far {c : Cr} {h : Hf} {u v r s : Int} (hs : 0 ≤ c.slack h) (hp : 0 < c.p) (hd : 0 ≤ r * u + s * v) : (c.push h u v).far c r s := by
  unfold Cr.far
  simp only [Cr.push]
  have e1 : (r * (c.x * h.dot u v + c.slack h * u) + s * (c.y * h.dot u v + c.slack h * v)) = (r * c.x + s * c.y) * h.dot u v + c.slack h * (r * u + s * v) := by
    simp only [Int.mul_add, Int.add_mul]
    have f1 : r * (c.slack h * u) = c.slack h * (r * u) := by rw [← Int.mul_assoc, Int.mul_comm r, Int.mul_assoc]
    have f2 : s * (c.slack h * v) = c.slack h * (s * v) := by rw [← Int.mul_assoc, Int.mul_comm s, Int.mul_assoc]
    have f3 : r * (c.x * h.dot u v) = r * c.x * h.dot u v := (Int.mul_assoc _ _ _).symm
    have f4 : s * (c.y * h.dot u v) = s * c.y * h.dot u v := (Int.mul_assoc _ _ _).symm
    omega
  rw [e1]
  have h3 := Int.add_mul ((r * c.x + s * c.y) * h.dot u v) (c.slack h * (r * u + s * v)) c.p
  have h1 : 0 ≤ c.slack h * (r * u + s * v) * c.p := Int.mul_nonneg (Int.mul_nonneg hs hd) (Int.le_of_lt hp)
  have h2 : (r * c.x + s * c.y) * (c.p * h.dot u v) = (r * c.x + s * c.y) * h.dot u v * c.p := by rw [Int.mul_comm c.p, ← Int.mul_assoc]
  omega
theorem meet_far {c : Cr} {hs : List Hf} (hc : c.inA hs) {g h : Hf} (hg : c.slack g = 0) (hh : c.slack h = 0) (hp : 0 < g.a * h.b - h.a * g.b) (u v : Int) : (cross g h).far c u v := by
  rw [cross_of hp]
  unfold Cr.far
  simp only
  have hx : c.x * (g.a * h.b - h.a * g.b) = c.p * (g.c * h.b - h.c * g.b) := by
    have e1 : g.c * c.p = g.a * c.x + g.b * c.y := by unfold Cr.slack at hg; omega
    have e2 : h.c * c.p = h.a * c.x + h.b * c.y := by unfold Cr.slack at hh; omega
    have e3 : c.p * (g.c * h.b - h.c * g.b) = (g.c * c.p) * h.b - (h.c * c.p) * g.b := by
      rw [Int.mul_sub, ← Int.mul_assoc, ← Int.mul_assoc, Int.mul_comm c.p, Int.mul_comm c.p]
    rw [e3, e1, e2]
    simp only [Int.mul_sub, Int.add_mul]
    have f1 : g.b * c.y * h.b = h.b * c.y * g.b := by rw [Int.mul_assoc, Int.mul_comm g.b, Int.mul_comm c.y]
    have f2 : c.x * (g.a * h.b) = g.a * c.x * h.b := by rw [← Int.mul_assoc, Int.mul_comm c.x]
    have f3 : c.x * (h.a * g.b) = h.a * c.x * g.b := by rw [← Int.mul_assoc, Int.mul_comm c.x]
    omega
  have hy : c.y * (g.a * h.b - h.a * g.b) = c.p * (g.a * h.c - h.a * g.c) := by
    have e1 : g.c * c.p = g.a * c.x + g.b * c.y := by unfold Cr.slack at hg; omega
    have e2 : h.c * c.p = h.a * c.x + h.b * c.y := by unfold Cr.slack at hh; omega
    have e3 : c.p * (g.a * h.c - h.a * g.c) = g.a * (h.c * c.p) - h.a * (g.c * c.p) := by
      rw [Int.mul_sub, Int.mul_comm c.p, Int.mul_comm c.p, Int.mul_assoc, Int.mul_assoc]
    rw [e3, e1, e2]
    simp only [Int.mul_sub, Int.mul_add]
    have f1 : g.a * (h.a * c.x) = h.a * (g.a * c.x) := by rw [← Int.mul_assoc, Int.mul_comm g.a, Int.mul_assoc]
    have f2 : c.y * (g.a * h.b) = g.a * (h.b * c.y) := by rw [Int.mul_comm, Int.mul_assoc]
    have f3 : c.y * (h.a * g.b) = h.a * (g.b * c.y) := by rw [Int.mul_comm, Int.mul_assoc]
    omega
  have e1 : (u * c.x + v * c.y) * (g.a * h.b - h.a * g.b) = c.p * (u * (g.c * h.b - h.c * g.b) + v * (g.a * h.c - h.a * g.c)) := by
    rw [Int.add_mul, Int.mul_assoc, Int.mul_assoc, hx, hy, Int.mul_add]
    have f1 : u * (c.p * (g.c * h.b - h.c * g.b)) = c.p * (u * (g.c * h.b - h.c * g.b)) := by rw [← Int.mul_assoc, Int.mul_comm u, Int.mul_assoc]
    have f2 : v * (c.p * (g.a * h.c - h.a * g.c)) = c.p * (v * (g.a * h.c - h.a * g.c)) := by rw [← Int.mul_assoc, Int.mul_comm v, Int.mul_assoc]
    omega
  rw [e1, Int.mul_comm]
  exact Int.le_refl _
/-- No place is farther than all corners. -/
theorem top {q : Cr} {hs : List Hf} (hq : q.inA hs) (hS : Sided hs) {u v : Int} (hd : u ≠ 0 ∨ v ≠ 0) : ∃ c ∈ crnR hs hs.length, c.far q u v := by
  obtain ⟨g, hg, hg0, hgm⟩ := exists_first q u v hs (hS.ahead hd)
  have h1 := hq.push hg hg0 hgm
  have f1 : (q.push g u v).far q u v := push_far (hq.slack0 hg) hq.1 (by
    have a1 : 0 ≤ u * u := by rcases Int.le_total 0 u with h | h; exact Int.mul_nonneg h h; exact Int.mul_nonneg_of_nonpos_of_nonpos h h
    have a2 : 0 ≤ v * v := by rcases Int.le_total 0 v with h | h; exact Int.mul_nonneg h h; exact Int.mul_nonneg_of_nonpos_of_nonpos h h
    omega)
  have t1 : (q.push g u v).slack g = 0 := by rw [slack_push]; omega
  generalize q.push g u v = c1 at h1 t1 f1
  have hgz : g.a ≠ 0 ∨ g.b ≠ 0 := by
    rcases Classical.em (g.a = 0 ∧ g.b = 0) with h | h
    · rw [Hf.dot, h.1, h.2] at hg0; omega
    · omega
  -- along the edge, to the side that is no less far
  rcases Int.le_total 0 (u * (-g.b) + v * g.a) with hw | hw
  · obtain ⟨h, hh, hh0, hhm⟩ := exists_first c1 (-g.b) g.a hs (hS.ahead (by omega))
    have h2 := h1.push hh hh0 hhm
    have f2 : (c1.push h (-g.b) g.a).far c1 u v := push_far (h1.slack0 hh) h1.1 hw
    have hz : g.dot (-g.b) g.a = 0 := by simp only [Hf.dot, Int.mul_neg]; rw [Int.mul_comm g.b]; omega
    have t2 : (c1.push h (-g.b) g.a).slack g = 0 := by rw [slack_push, hz, t1]; simp
    have t3 : (c1.push h (-g.b) g.a).slack h = 0 := by rw [slack_push]; omega
    have hp : 0 < g.a * h.b - h.a * g.b := by
      have : h.dot (-g.b) g.a = g.a * h.b - h.a * g.b := by simp only [Hf.dot, Int.mul_neg]; rw [Int.mul_comm h.b]; omega
      omega
    have h3 := h2.meet t2 t3 hp
    exact ⟨cross g h, mem_crn.2 ⟨g, hg, h, hh, good_iff.2 h3, rfl⟩, far_trans h3.1 h2.1 hq.1 (meet_far h2 t2 t3 hp u v) (far_trans h2.1 h1.1 hq.1 f2 f1)⟩
  · obtain ⟨h, hh, hh0, hhm⟩ := exists_first c1 g.b (-g.a) hs (hS.ahead (by omega))
    have h2 := h1.push hh hh0 hhm
    have f2 : (c1.push h g.b (-g.a)).far c1 u v := push_far (h1.slack0 hh) h1.1 (by rw [Int.mul_neg] at hw ⊢; omega)
    have hz : g.dot g.b (-g.a) = 0 := by simp only [Hf.dot, Int.mul_neg]; rw [Int.mul_comm g.b]; omega
    have t2 : (c1.push h g.b (-g.a)).slack g = 0 := by rw [slack_push, hz, t1]; simp
    have t3 : (c1.push h g.b (-g.a)).slack h = 0 := by rw [slack_push]; omega
    have hp : 0 < h.a * g.b - g.a * h.b := by
      have : h.dot g.b (-g.a) = h.a * g.b - g.a * h.b := by simp only [Hf.dot, Int.mul_neg]; rw [Int.mul_comm h.b]; omega
      omega
    have h3 := h2.meet t3 t2 hp
    exact ⟨cross h g, mem_crn.2 ⟨h, hh, g, hg, good_iff.2 h3, rfl⟩, far_trans h3.1 h2.1 hq.1 (meet_far h2 t3 t2 hp u v) (far_trans h2.1 h1.1 hq.1 f2 f1)⟩
theorem crn_inA {hs : List Hf} {c : Cr} (h : c ∈ crnR hs hs.length) : c.inA hs := by
  obtain ⟨g, hg, k, hk, e, rfl⟩ := mem_crn.1 h
  exact good_iff.1 e
theorem hasPl_place {hs : List Hf} (h : hasPl hs = true) : ∃ c : Cr, c.inA hs := by
  obtain ⟨g, hg, k, hk, e⟩ := hasPl_iff.1 h
  exact ⟨_, good_iff.1 e⟩
theorem hasPl_sided {hs : List Hf} (hS : Sided hs) : hasPl hs = true ↔ ∃ c : Cr, c.inA hs := ⟨hasPl_place, fun ⟨c, hc⟩ => hasPl_of hc hS.e hS.n⟩
/-- A look. -/
structure Lk where
  k : Int
  x : Int
  y : Int
  fx : Int
  fy : Int
  tx : Int
  ty : Int
  n : Int
  n' : Int
  f : Int
  deriving DecidableEq
def Lk.c (l : Lk) : List D := [U8 l.k, I l.x, I l.y, I l.fx, I l.fy, I l.tx, I l.ty, I l.n, I l.n', I l.f]
def crs1 (x y : Int) : Bool := inR x (-1000) 1000 && inR y (-1000) 1000
def Lk.ok (l : Lk) : Bool :=
  if l.k = 1 then plOK l.x l.y && (crs1 l.fx l.fy && (crs1 l.tx l.ty && decide (l.fx * l.ty - l.fy * l.tx > 0)))
  else if l.k = 2 then inS l.n l.n' (-10000000) 10000000
  else if l.k = 3 then askOK l.x l.y l.f else false
theorem e97 (x y : Int) : evL FN 97 [.node [I x, I y]] = some (.bool (crs1 x y)) := by
  refine evL_of (F := F97) rfl ?_
  unfold crs1
  cases e1 : inR x (-1000) 1000 <;> simp [F97, Fn.denV, fits, T.denV, denVK, denL, E.den, D.cells, D.den1, binD, outOf, e99, e1]
theorem crsIn {x y : Int} (h : crs1 x y = true) : (-1000 ≤ x ∧ x ≤ 1000) ∧ (-1000 ≤ y ∧ y ≤ 1000) := by
  simp [crs1, inR] at h
  omega
theorem e98 {a b c d : Int} (h1 : crs1 a b = true) (h2 : crs1 c d = true) : evL FN 98 [.node [I a, I b], .node [I c, I d]] = some (.bool (decide (a * d - b * c > 0))) := by
  refine evL_of (F := F98) rfl ?_
  have i1 := crsIn h1
  have i2 := crsIn h2
  have m1 := mulB i1.1 i2.2
  have m2 := mulB i1.2 i2.1
  have w1 := wrapI (x := a * d) (by omega)
  have w2 := wrapI (x := b * c) (by omega)
  have w3 := wrapI (x := a * d - b * c) (by omega)
  simp [F98, Fn.denV, fits, T.denV, denVK, denL, E.den, D.cells, D.den1, binD, outOf, w1, w2, w3]
theorem e61 (l : Lk) : evL FN 61 [.node l.c] = some (.bool l.ok) := by
  refine evL_of (F := F61) rfl ?_
  unfold Lk.ok
  by_cases k1 : l.k = 1
  · rw [if_pos k1]
    cases e1 : plOK l.x l.y
    · simp [Lk.c, k1, F61, Fn.denV, fits, T.denV, denVK, denL, E.den, D.cells, D.den1, binD, outOf, e96, e1]
    cases e2 : crs1 l.fx l.fy
    · simp [Lk.c, k1, F61, Fn.denV, fits, T.denV, denVK, denL, E.den, D.cells, D.den1, binD, outOf, e96, e97, e1, e2]
    cases e3 : crs1 l.tx l.ty
    · simp [Lk.c, k1, F61, Fn.denV, fits, T.denV, denVK, denL, E.den, D.cells, D.den1, binD, outOf, e96, e97, e1, e2, e3]
    simp [Lk.c, k1, F61, Fn.denV, fits, T.denV, denVK, denL, E.den, D.cells, D.den1, binD, outOf, e96, e97, e98 e2 e3, e1, e2, e3]
  rw [if_neg k1]
  by_cases k2 : l.k = 2
  · simp [Lk.c, k1, k2, F61, Fn.denV, fits, T.denV, denVK, denL, E.den, D.cells, D.den1, binD, outOf, e58]
  rw [if_neg k2]
  by_cases k3 : l.k = 3
  · rw [if_pos k3]
    unfold askOK
    cases e1 : plOK l.x l.y <;>
      simp [Lk.c, k1, k2, k3, F61, Fn.denV, fits, T.denV, denVK, denL, E.den, D.cells, D.den1, binD, outOf, e96, e99, e1]
  · simp [Lk.c, k1, k2, k3, F61, Fn.denV, fits, T.denV, denVK, denL, E.den, D.cells, D.den1, binD, outOf]
/-- The halves of a look. -/
def Lk.hv (l : Lk) : List Hf :=
  if l.k = 1 then [⟨-l.fy, l.fx, l.fx * l.y - l.fy * l.x⟩, ⟨l.ty, -l.tx, l.ty * l.x - l.tx * l.y⟩]
  else if l.k = 2 then [⟨0, 1, l.n'⟩, ⟨0, -1, -l.n⟩] else nr l.x l.y l.f
theorem Lk.okC {l : Lk} (h : l.ok = true) : (l.k = 1 ∧ plOK l.x l.y = true ∧ crs1 l.fx l.fy = true ∧ crs1 l.tx l.ty = true ∧ l.fx * l.ty - l.fy * l.tx > 0) ∨ (l.k = 2 ∧ inS l.n l.n' (-10000000) 10000000 = true) ∨ (l.k = 3 ∧ askOK l.x l.y l.f = true) := by
  unfold Lk.ok at h
  split at h
  · rename_i k
    simp only [Bool.and_eq_true, decide_eq_true_eq] at h
    exact .inl ⟨k, h.1, h.2.1, h.2.2.1, h.2.2.2⟩
  · split at h
    · exact .inr (.inl ⟨‹_›, h⟩)
    · split at h
      · exact .inr (.inr ⟨‹_›, h⟩)
      · cases h
theorem plIn {x y : Int} (h : plOK x y = true) : (-10000000 ≤ x ∧ x ≤ 10000000) ∧ (-10000000 ≤ y ∧ y ≤ 10000000) := by
  simp [plOK, inR] at h
  omega
theorem inS_in1 {a b lo hi : Int} (h : inS a b lo hi = true) : lo ≤ a ∧ a ≤ b ∧ b ≤ hi := by
  simp [inS] at h
  omega
theorem Lk.hvIn {l : Lk} (h : l.ok = true) : ∀ k ∈ l.hv, k.In := by
  unfold Lk.hv
  rcases l.okC h with ⟨k, h1, h2, h3, -⟩ | ⟨k, h1⟩ | ⟨k, h1⟩
  · rw [if_pos k]
    have i0 := plIn h1
    have i1 := crsIn h2
    have i2 := crsIn h3
    have m1 := mulB i1.1 i0.2
    have m2 := mulB i1.2 i0.1
    have m3 := mulB i2.2 i0.1
    have m4 := mulB i2.1 i0.2
    intro g hg
    simp only [List.mem_cons, List.not_mem_nil, or_false] at hg
    rcases hg with rfl | rfl
    · exact ⟨by simp only; omega, by simp only; omega, by simp only; omega⟩
    · exact ⟨by simp only; omega, by simp only; omega, by simp only; omega⟩
  · rw [if_neg (by omega), if_pos k]
    have i1 := inS_in1 h1
    intro g hg
    simp only [List.mem_cons, List.not_mem_nil, or_false] at hg
    rcases hg with rfl | rfl
    · exact ⟨by simp only; omega, by simp only; omega, by simp only; omega⟩
    · exact ⟨by simp only; omega, by simp only; omega, by simp only; omega⟩
  · rw [if_neg (by omega), if_neg (by omega)]
    exact nrIn h1
theorem Lk.hv_len (l : Lk) : l.hv.length ≤ 4 := by
  unfold Lk.hv
  split
  · simp
  · split
    · simp
    · simp [nr, sides]
theorem e101 {l : Lk} (h0 : plOK l.x l.y = true) (h1 : crs1 l.fx l.fy = true) (h2 : crs1 l.tx l.ty = true) : evL FN 101 [.node l.c] = some (hfs [⟨-l.fy, l.fx, l.fx * l.y - l.fy * l.x⟩, ⟨l.ty, -l.tx, l.ty * l.x - l.tx * l.y⟩]) := by
  refine evL_of (F := F101) rfl ?_
  have i0 := plIn h0
  have i1 := crsIn h1
  have i2 := crsIn h2
  have m1 := mulB i1.1 i0.2
  have m2 := mulB i1.2 i0.1
  have m3 := mulB i2.2 i0.1
  have m4 := mulB i2.1 i0.2
  have w1 := wrapI (x := l.fx * l.y) (by omega)
  have w2 := wrapI (x := l.fy * l.x) (by omega)
  have w3 := wrapI (x := l.ty * l.x) (by omega)
  have w4 := wrapI (x := l.tx * l.y) (by omega)
  have w5 := wrapI (x := l.fx * l.y - l.fy * l.x) (by omega)
  have w6 := wrapI (x := l.ty * l.x - l.tx * l.y) (by omega)
  have w7 := wrapI (x := -l.fy) (by omega)
  have w8 := wrapI (x := -l.tx) (by omega)
  simp [Lk.c, F101, Fn.denV, fits, T.denV, denVK, denL, E.den, D.cells, D.den1, binD, unD, w1, w2, w3, w4, w5, w6, w7, w8, fillD, hfs, Hf.d]
theorem e102 {l : Lk} (h : inS l.n l.n' (-10000000) 10000000 = true) : evL FN 102 [.node l.c] = some (hfs [⟨0, 1, l.n'⟩, ⟨0, -1, -l.n⟩]) := by
  refine evL_of (F := F102) rfl ?_
  have i1 := inS_in1 h
  have w1 := wrapI (x := -l.n) (by omega)
  simp [Lk.c, F102, Fn.denV, fits, T.denV, denVK, denL, E.den, D.cells, D.den1, binD, unD, w1, fillD, hfs, Hf.d]
theorem e91l {l : Lk} (h : askOK l.x l.y l.f = true) : evL FN 103 [.node l.c] = some (hfs (nr l.x l.y l.f)) := by
  refine evL_of (F := F103) rfl ?_
  have hh := askIn h
  have w1 := wrapI (x := l.x - l.f) (by omega)
  have w2 := wrapI (x := l.x + l.f) (by omega)
  have w3 := wrapI (x := l.y - l.f) (by omega)
  have w4 := wrapI (x := l.y + l.f) (by omega)
  have h64 := e59 (a := l.x - l.f) (b := l.x + l.f) (c := l.y - l.f) (d := l.y + l.f) (by omega) (by omega) (by omega) (by omega)
  simp [Lk.c, nr, F103, Fn.denV, fits, T.denV, denVK, denL, E.den, D.cells, D.den1, binD, outOf, w1, w2, w3, w4, h64]
theorem e63 {l : Lk} (h : l.ok = true) : evL FN 63 [.node l.c] = some (hfs l.hv) := by
  refine evL_of (F := F63) rfl ?_
  unfold Lk.hv
  rcases l.okC h with ⟨k, h1, h2, h3, -⟩ | ⟨k, h1⟩ | ⟨k, h1⟩
  · have h := e101 h1 h2 h3
    simp only [Lk.c] at h
    rw [k] at h
    simp [Lk.c, k, F63, Fn.denV, fits, T.denV, denVK, denL, E.den, D.cells, D.den1, binD, outOf, h]
  · have h := e102 h1
    simp only [Lk.c] at h
    rw [k] at h
    simp [Lk.c, k, F63, Fn.denV, fits, T.denV, denVK, denL, E.den, D.cells, D.den1, binD, outOf, h]
  · have h := e91l h1
    simp only [Lk.c] at h
    rw [k] at h
    simp [Lk.c, k, F63, Fn.denV, fits, T.denV, denVK, denL, E.den, D.cells, D.den1, binD, outOf, h]
/-- An area with the halves of a look. -/
def seeS (hs : List Hf) (l : Lk) : List Hf × Int :=
  if okA hs = false then ([], 40) else if l.ok = false then ([], 41) else if 40 < (hs ++ l.hv).length then ([], 9) else if hasPl (hs ++ l.hv) = false then ([], 43) else (hs ++ l.hv, 0)
theorem shal_two {a b : List Hf} {n : Nat} : D.shal (n + 2) (.list [[hfs a], [hfs b]]) = true := by
  simp [D.shal, D.shal1, D.shal0, hfs, Hf.d, shal1_int]
theorem e24 (hs : List Hf) (l : Lk) (hl : hs.length < 9223372036854775807) : evL FN 24 [.node [hfs hs], .node l.c] = some (.node [.node [hfs (seeS hs l).1], I (seeS hs l).2]) := by
  refine evL_of (F := F24) rfl ?_
  have h28 := e60 hs hl
  have h51 := e61 l
  simp only [hfs, I, Lk.c] at h28 h51
  unfold seeS
  cases k1 : okA hs
  · rw [k1] at h28
    simp [F24, Fn.denV, fits, T.denV, denVK, denL, E.den, D.cells, hfs, Lk.c, D.den1, binD, unD, h28]
  rw [k1] at h28
  obtain ⟨hin, hlen⟩ := okA_in k1
  cases k2 : l.ok
  · rw [k2] at h51
    simp [F24, Fn.denV, fits, T.denV, denVK, denL, E.den, D.cells, hfs, Lk.c, D.den1, binD, unD, h28, h51]
  rw [k2] at h51
  have hv4 := l.hv_len
  have h53 := e63 k2
  have h52 := e62 hs l.hv (by omega)
  have hms : (hs ++ l.hv).length ≤ 44 := by rw [List.length_append]; omega
  have hmi : ∀ h ∈ hs ++ l.hv, h.In := by
    intro h hm
    rcases List.mem_append.1 hm with h1 | h1
    · exact hin h h1
    · exact l.hvIn k2 h h1
  have h54 := e64 (hs ++ l.hv) hmi (by omega)
  have s1 := shal_two (n := 2) (a := hs) (b := l.hv)
  have s2 := shal_hfs (n := 0) (hs := hs ++ l.hv)
  generalize hs ++ l.hv = ms at *
  simp only [hfs, Lk.c, I] at h53 h52 h54 s1 s2
  by_cases k3 : 40 < ms.length
  · have k3' : (40 : Int) < ms.length := by omega
    simp [F24, Fn.denV, fits, T.denV, denVK, denL, E.den, D.cells, hfs, Lk.c, D.den1, binD, unD, fillD, h28, h51, h53, h52, s1, s2, k3, k3']
  have k3' : ¬ (40 : Int) < ms.length := by omega
  cases k4 : hasPl ms <;> rw [k4] at h54 <;>
    simp [F24, Fn.denV, fits, T.denV, denVK, denL, E.den, D.cells, hfs, Lk.c, D.den1, binD, unD, fillD, h28, h51, h53, h52, h54, s1, s2, k3, k3', D.flat, D.flat0]
theorem foldl_min_ge {f : Cr → Int} : ∀ (cs : List Cr) (m a : Int), m ≤ cs.foldl (fun m c => min m (f c)) a ↔ m ≤ a ∧ ∀ d ∈ cs, m ≤ f d
  | [], m, a => by simp
  | c :: cs, m, a => by
    rw [List.foldl_cons, foldl_min_ge cs]
    constructor
    · rintro ⟨h1, h2⟩
      refine ⟨by omega, fun d hd => ?_⟩
      rcases List.mem_cons.1 hd with rfl | hd
      · omega
      · exact h2 d hd
    · rintro ⟨h1, h2⟩
      exact ⟨by have := h2 c (by simp); omega, fun d hd => h2 d (by simp [hd])⟩
theorem foldl_max_le {f : Cr → Int} : ∀ (cs : List Cr) (m a : Int), cs.foldl (fun m c => max m (f c)) a ≤ m ↔ a ≤ m ∧ ∀ d ∈ cs, f d ≤ m
  | [], m, a => by simp
  | c :: cs, m, a => by
    rw [List.foldl_cons, foldl_max_le cs]
    constructor
    · rintro ⟨h1, h2⟩
      refine ⟨by omega, fun d hd => ?_⟩
      rcases List.mem_cons.1 hd with rfl | hd
      · omega
      · exact h2 d hd
    · rintro ⟨h1, h2⟩
      exact ⟨by have := h2 c (by simp); omega, fun d hd => h2 d (by simp [hd])⟩
theorem lo2_ge {f g : Cr → Int} {c : Cr} {cs : List Cr} {m : Int} : m ≤ lo2 f g c cs ↔ ∀ d ∈ c :: cs, m ≤ f d := by
  unfold lo2
  rw [foldl_min_ge]
  simp
theorem hi2_le {f g : Cr → Int} {c : Cr} {cs : List Cr} {m : Int} : hi2 f g c cs ≤ m ↔ ∀ d ∈ c :: cs, g d ≤ m := by
  unfold hi2
  rw [foldl_max_le]
  simp
theorem fX_ge {c : Cr} (hp : 0 < c.p) {m : Int} : m ≤ fX c ↔ m * c.p ≤ c.x := Int.le_ediv_iff_mul_le hp
theorem fY_ge {c : Cr} (hp : 0 < c.p) {m : Int} : m ≤ fY c ↔ m * c.p ≤ c.y := Int.le_ediv_iff_mul_le hp
theorem gX_le {c : Cr} (hp : 0 < c.p) {m : Int} : gX c ≤ m ↔ c.x ≤ m * c.p := by
  have h : -m ≤ -c.x / c.p ↔ -m * c.p ≤ -c.x := Int.le_ediv_iff_mul_le hp
  rw [Int.neg_mul] at h
  unfold gX
  omega
theorem gY_le {c : Cr} (hp : 0 < c.p) {m : Int} : gY c ≤ m ↔ c.y ≤ m * c.p := by
  have h : -m ≤ -c.y / c.p ↔ -m * c.p ≤ -c.y := Int.le_ediv_iff_mul_le hp
  rw [Int.neg_mul] at h
  unfold gY
  omega
/-- The bounds are near just if all corners are. -/
theorem bnd_near {x y f : Int} {c : Cr} {cs : List Cr} (hp : ∀ d ∈ c :: cs, 0 < d.p) :
    (x - f ≤ lo2 fX gX c cs ∧ hi2 fX gX c cs ≤ x + f ∧ y - f ≤ lo2 fY gY c cs ∧ hi2 fY gY c cs ≤ y + f) ↔ (c :: cs).all (fun d => (nr x y f).all d.isIn) = true := by
  rw [lo2_ge, hi2_le, lo2_ge, hi2_le, List.all_eq_true]
  constructor
  · rintro ⟨h1, h2, h3, h4⟩ d hd
    rw [nr_all]
    simp only [Bool.and_eq_true, decide_eq_true_eq]
    exact ⟨(gX_le (hp d hd)).1 (h2 d hd), (fX_ge (hp d hd)).1 (h1 d hd), (gY_le (hp d hd)).1 (h4 d hd), (fY_ge (hp d hd)).1 (h3 d hd)⟩
  · intro h
    have key : ∀ d ∈ c :: cs, d.x ≤ (x + f) * d.p ∧ (x - f) * d.p ≤ d.x ∧ d.y ≤ (y + f) * d.p ∧ (y - f) * d.p ≤ d.y := fun d hd => by
      have := h d hd
      rw [nr_all] at this
      simpa only [Bool.and_eq_true, decide_eq_true_eq] using this
    exact ⟨fun d hd => (fX_ge (hp d hd)).2 (key d hd).2.1, fun d hd => (gX_le (hp d hd)).2 (key d hd).1, fun d hd => (fY_ge (hp d hd)).2 (key d hd).2.2.2, fun d hd => (gY_le (hp d hd)).2 (key d hd).2.2.1⟩
theorem inA_append {c : Cr} {hs ks : List Hf} (h1 : c.inA hs) (h2 : ks.all c.isIn = true) : c.inA (hs ++ ks) := by
  refine ⟨h1.1, fun h hm => ?_⟩
  rcases List.mem_append.1 hm with hm | hm
  · exact h1.2 h hm
  · have := List.all_eq_true.1 h2 h hm
    simpa [Cr.isIn] using this
/-- Near for sure: all corners are. -/
theorem kn_two {hs ks : List Hf} (hS : Sided hs) (hpl : hasPl hs = true) : kn hs ks = 2 ↔ (crnR hs hs.length).all (fun c => ks.all c.isIn) = true := by
  unfold kn
  constructor
  · intro h
    split at h
    · cases h
    · split at h
      · assumption
      · cases h
  · intro h
    have : hasPl (hs ++ ks) = true := by
      cases e : crnR hs hs.length with
      | nil => rw [crn_nil.1 e] at hpl; cases hpl
      | cons c cs =>
        have hc : c ∈ crnR hs hs.length := by rw [e]; simp
        have hS' : Sided (hs ++ ks) := hS.mono fun x hx => by simp [hx]
        exact (hasPl_sided hS').2 ⟨c, inA_append (crn_inA hc) (List.all_eq_true.1 h c hc)⟩
    rw [this, h]
    simp
theorem kn_zero {hs ks : List Hf} : kn hs ks = 0 ↔ hasPl (hs ++ ks) = false := by
  unfold kn
  split
  · simp [*]
  · rename_i h
    simp only [h, iff_false]
    split <;> simp
theorem kn_cases2 (hs os : List Hf) : kn hs os = 0 ∨ kn hs os = 1 ∨ kn hs os = 2 := by
  unfold kn
  split
  · exact .inl rfl
  · split
    · exact .inr (.inr rfl)
    · exact .inr (.inl rfl)
def nl (x y f : Int) : Lk := ⟨3, x, y, 0, 0, 0, 0, 0, 0, f⟩
end Go.Q
