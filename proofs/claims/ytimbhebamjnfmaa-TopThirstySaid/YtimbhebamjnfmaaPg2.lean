/- Ported: guide (Gc0, Gg0, Gc1) -/
import Derived.Test.YtimbhebamjnfmaaPg1
set_option linter.unusedVariables false
set_option linter.unusedSimpArgs false
set_option maxRecDepth 100000
namespace Go.Q.G
open Go.V
/-- The place is in all halves. -/
def Cr.inA (c : Cr) (hs : List Hf) : Prop := 0 < c.p ∧ ∀ h ∈ hs, h.a * c.x + h.b * c.y ≤ h.c * c.p
def Hf.dot (h : Hf) (u v : Int) : Int := h.a * u + h.b * v
def Cr.slack (c : Cr) (h : Hf) : Int := h.c * c.p - (h.a * c.x + h.b * c.y)
theorem Cr.inA.slack0 {c : Cr} {hs : List Hf} (hc : c.inA hs) {h : Hf} (hh : h ∈ hs) : 0 ≤ c.slack h := by
  have := hc.2 h hh
  unfold Cr.slack
  omega
/-- The one that is met first on the way. -/
theorem exists_first (c : Cr) (u v : Int) : ∀ (hs : List Hf), (∃ h ∈ hs, 0 < h.dot u v) →
    ∃ h ∈ hs, 0 < h.dot u v ∧ ∀ g ∈ hs, 0 < g.dot u v → c.slack h * g.dot u v ≤ c.slack g * h.dot u v
  | [], ⟨h, hh, _⟩ => by simp at hh
  | a :: l, ⟨h, hh, hp⟩ => by
    by_cases hl : ∃ h ∈ l, 0 < h.dot u v
    · obtain ⟨m, hm, hm0, hmin⟩ := exists_first c u v l hl
      by_cases ha : 0 < a.dot u v
      · by_cases hc : c.slack m * a.dot u v ≤ c.slack a * m.dot u v
        · refine ⟨m, List.mem_cons_of_mem _ hm, hm0, fun g hg hg0 => ?_⟩
          rcases List.mem_cons.1 hg with rfl | hg
          · exact hc
          · exact hmin g hg hg0
        · refine ⟨a, List.mem_cons_self, ha, fun g hg hg0 => ?_⟩
          rcases List.mem_cons.1 hg with rfl | hg
          · exact Int.le_refl _
          · have h1 := hmin g hg hg0
            have h2 : c.slack a * m.dot u v ≤ c.slack m * a.dot u v := by omega
            -- slack a * g.dot ≤ slack g * a.dot : multiply by m.dot > 0
            have h3 := Int.mul_le_mul_of_nonneg_right h2 (Int.le_of_lt hg0)
            have h4 := Int.mul_le_mul_of_nonneg_right h1 (Int.le_of_lt ha)
            have h5 : c.slack a * g.dot u v * m.dot u v ≤ c.slack g * a.dot u v * m.dot u v := by
              have e1 : c.slack a * m.dot u v * g.dot u v = c.slack a * g.dot u v * m.dot u v := by rw [Int.mul_assoc, Int.mul_comm (m.dot u v), ← Int.mul_assoc]
              have e2 : c.slack m * a.dot u v * g.dot u v = c.slack m * g.dot u v * a.dot u v := by rw [Int.mul_assoc, Int.mul_comm (a.dot u v), ← Int.mul_assoc]
              have e3 : c.slack g * m.dot u v * a.dot u v = c.slack g * a.dot u v * m.dot u v := by rw [Int.mul_assoc, Int.mul_comm (m.dot u v), ← Int.mul_assoc]
              omega
            exact Int.le_of_mul_le_mul_right h5 hm0
      · refine ⟨m, List.mem_cons_of_mem _ hm, hm0, fun g hg hg0 => ?_⟩
        rcases List.mem_cons.1 hg with rfl | hg
        · exact absurd hg0 ha
        · exact hmin g hg hg0
    · rcases List.mem_cons.1 hh with rfl | hh
      · refine ⟨h, List.mem_cons_self, hp, fun g hg hg0 => ?_⟩
        rcases List.mem_cons.1 hg with rfl | hg
        · exact Int.le_refl _
        · exact absurd ⟨g, hg, hg0⟩ hl
      · exact absurd ⟨h, hh, hp⟩ hl
/-- A place that is pushed on until it is at an edge. -/
def Cr.push (c : Cr) (h : Hf) (u v : Int) : Cr := ⟨c.x * h.dot u v + c.slack h * u, c.y * h.dot u v + c.slack h * v, c.p * h.dot u v⟩
theorem push_sum (c : Cr) (h g : Hf) (u v : Int) : g.a * (c.push h u v).x + g.b * (c.push h u v).y = (g.a * c.x + g.b * c.y) * h.dot u v + c.slack h * g.dot u v := by
  simp only [Cr.push, Hf.dot, Int.mul_add, Int.add_mul]
  generalize h.a * u = s
  generalize h.b * v = t
  have e1 : g.a * (c.slack h * u) = c.slack h * (g.a * u) := by rw [← Int.mul_assoc, Int.mul_comm g.a, Int.mul_assoc]
  have e2 : g.b * (c.slack h * v) = c.slack h * (g.b * v) := by rw [← Int.mul_assoc, Int.mul_comm g.b, Int.mul_assoc]
  rw [e1, e2]
  simp only [← Int.mul_assoc]
  omega
theorem Cr.inA.push {c : Cr} {hs : List Hf} (hc : c.inA hs) {h : Hf} {u v : Int} (hh : h ∈ hs) (hd : 0 < h.dot u v) (hmin : ∀ g ∈ hs, 0 < g.dot u v → c.slack h * g.dot u v ≤ c.slack g * h.dot u v) :
    (c.push h u v).inA hs := by
  refine ⟨Int.mul_pos hc.1 hd, fun g hg => ?_⟩
  rw [push_sum]
  have hs0 := hc.slack0 hh
  have hg0 := hc.slack0 hg
  have key : c.slack h * g.dot u v ≤ c.slack g * h.dot u v := by
    by_cases hgd : 0 < g.dot u v
    · exact hmin g hg hgd
    · have h1 : c.slack h * g.dot u v ≤ 0 := Int.mul_nonpos_of_nonneg_of_nonpos hs0 (by omega)
      have h2 : 0 ≤ c.slack g * h.dot u v := Int.mul_nonneg hg0 (by omega)
      omega
  have e : g.c * (c.push h u v).p = (g.a * c.x + g.b * c.y) * h.dot u v + c.slack g * h.dot u v := by
    rw [← Int.add_mul]
    simp only [Cr.push, Cr.slack, ← Int.mul_assoc]
    congr 1
    omega
  omega
theorem slack_push (c : Cr) (h g : Hf) (u v : Int) : (c.push h u v).slack g = c.slack g * h.dot u v - c.slack h * g.dot u v := by
  have e := push_sum c h g u v
  have e2 : g.c * (c.push h u v).p = g.c * c.p * h.dot u v := by simp only [Cr.push, ← Int.mul_assoc]
  show g.c * (c.push h u v).p - _ = _
  rw [e, e2]
  simp only [Cr.slack, Int.sub_mul]
  omega
theorem cross_of {g h : Hf} (hp : 0 < g.a * h.b - h.a * g.b) : cross g h = ⟨g.c * h.b - h.c * g.b, g.a * h.c - h.a * g.c, g.a * h.b - h.a * g.b⟩ := by
  unfold cross
  simp only
  rw [if_neg (by omega)]
/-- Where two edges meet that a place is on, this place is. -/
theorem Cr.inA.meet {c : Cr} {hs : List Hf} (hc : c.inA hs) {g h : Hf} (hg : c.slack g = 0) (hh : c.slack h = 0) (hp : 0 < g.a * h.b - h.a * g.b) : (cross g h).inA hs := by
  rw [cross_of hp]
  refine ⟨hp, fun k hk => ?_⟩
  simp only
  have hx : c.x * (g.a * h.b - h.a * g.b) = c.p * (g.c * h.b - h.c * g.b) := by
    have e1 : g.c * c.p = g.a * c.x + g.b * c.y := by unfold Cr.slack at hg; omega
    have e2 : h.c * c.p = h.a * c.x + h.b * c.y := by unfold Cr.slack at hh; omega
    have e3 : c.p * (g.c * h.b - h.c * g.b) = (g.c * c.p) * h.b - (h.c * c.p) * g.b := by
      rw [Int.mul_sub, ← Int.mul_assoc, ← Int.mul_assoc, Int.mul_comm c.p, Int.mul_comm c.p]
    rw [e3, e1, e2]
    simp only [Int.mul_sub, Int.add_mul]
    have f1 : g.b * c.y * h.b = h.b * c.y * g.b := by rw [Int.mul_assoc, Int.mul_comm g.b, Int.mul_comm c.y]
    have f2 : c.x * (g.a * h.b) = g.a * c.x * h.b := by rw [← Int.mul_assoc, Int.mul_comm c.x]
    have f3 : c.x * (h.a * g.b) = h.a * c.x * g.b := by rw [← Int.mul_assoc, Int.mul_comm c.x]
    omega
  have hy : c.y * (g.a * h.b - h.a * g.b) = c.p * (g.a * h.c - h.a * g.c) := by
    have e1 : g.c * c.p = g.a * c.x + g.b * c.y := by unfold Cr.slack at hg; omega
    have e2 : h.c * c.p = h.a * c.x + h.b * c.y := by unfold Cr.slack at hh; omega
    have e3 : c.p * (g.a * h.c - h.a * g.c) = g.a * (h.c * c.p) - h.a * (g.c * c.p) := by
      rw [Int.mul_sub, Int.mul_comm c.p, Int.mul_comm c.p, Int.mul_assoc, Int.mul_assoc]
    rw [e3, e1, e2]
    simp only [Int.mul_sub, Int.mul_add]
    have f1 : g.a * (h.a * c.x) = h.a * (g.a * c.x) := by rw [← Int.mul_assoc, Int.mul_comm g.a, Int.mul_assoc]
    have f2 : c.y * (g.a * h.b) = g.a * (h.b * c.y) := by rw [Int.mul_comm, Int.mul_assoc]
    have f3 : c.y * (h.a * g.b) = h.a * (g.b * c.y) := by rw [Int.mul_comm, Int.mul_assoc]
    omega
  have hk' := hc.2 k hk
  have hm := Int.mul_le_mul_of_nonneg_right hk' (Int.le_of_lt hp)
  refine Int.le_of_mul_le_mul_left (a := c.p) ?_ hc.1
  have e1 : c.p * (k.a * (g.c * h.b - h.c * g.b) + k.b * (g.a * h.c - h.a * g.c)) = (k.a * c.x + k.b * c.y) * (g.a * h.b - h.a * g.b) := by
    rw [Int.mul_add, Int.add_mul]
    have f1 : c.p * (k.a * (g.c * h.b - h.c * g.b)) = k.a * (c.p * (g.c * h.b - h.c * g.b)) := by rw [← Int.mul_assoc, Int.mul_comm c.p, Int.mul_assoc]
    have f2 : c.p * (k.b * (g.a * h.c - h.a * g.c)) = k.b * (c.p * (g.a * h.c - h.a * g.c)) := by rw [← Int.mul_assoc, Int.mul_comm c.p, Int.mul_assoc]
    rw [f1, f2, ← hx, ← hy, Int.mul_assoc, Int.mul_assoc]
  have e2 : c.p * (k.c * (g.a * h.b - h.a * g.b)) = k.c * c.p * (g.a * h.b - h.a * g.b) := by rw [← Int.mul_assoc, Int.mul_comm c.p]
  omega
theorem cross_comm_good {hs : List Hf} {g h : Hf} (hp : (cross g h).p ≠ 0) : cross g h = cross h g := by
  unfold cross at hp ⊢
  simp only at hp ⊢
  by_cases h1 : g.a * h.b - h.a * g.b < 0
  · rw [if_pos h1, if_neg (by omega)]
    congr 1 <;> omega
  · rw [if_neg h1] at hp ⊢
    simp only at hp
    rw [if_pos (by omega)]
    congr 1 <;> omega
theorem cross_pos {g h : Hf} : 0 ≤ (cross g h).p := by
  unfold cross
  simp only
  split <;> simp only <;> omega
theorem good_iff {hs : List Hf} {g h : Hf} : good hs g h = true ↔ (cross g h).inA hs := by
  simp [good, Cr.inA, Cr.isIn]
theorem good_comm {hs : List Hf} {g h : Hf} (e : good hs g h = true) : good hs h g = true := by
  have hp : (cross g h).p ≠ 0 := by have := (good_iff.1 e).1; omega
  unfold good at e ⊢
  rw [← cross_comm_good (hs := hs) hp]; exact e
theorem hasPl_iff {hs : List Hf} : hasPl hs = true ↔ ∃ g ∈ hs, ∃ h ∈ hs, good hs g h = true := by
  constructor
  · intro e
    simp only [hasPl, Bool.not_eq_true', List.all_eq_false] at e
    obtain ⟨i, hi, e⟩ := e
    have hi := List.mem_range.1 hi
    rw [Bool.not_eq_true, List.all_eq_false] at e
    obtain ⟨h, hh, e⟩ := e
    have e : good hs (hs.getD i ⟨0, 0, 0⟩) h = true := by simpa using e
    refine ⟨hs.getD i ⟨0, 0, 0⟩, ?_, h, List.mem_of_mem_take hh, e⟩
    simp [hi]
  · rintro ⟨g, hg, h, hh, e⟩
    obtain ⟨i, hi, rfl⟩ := List.mem_iff_getElem.1 hg
    obtain ⟨j, hj, rfl⟩ := List.mem_iff_getElem.1 hh
    simp only [hasPl, Bool.not_eq_true', List.all_eq_false]
    have key : ∀ i j : Nat, (hi : i < hs.length) → (hj : j < hs.length) → j < i → good hs hs[i] hs[j] = true → ∃ x ∈ List.range hs.length, ¬ ((hs.take x).all fun h => !good hs (hs.getD x ⟨0, 0, 0⟩) h) = true := by
      intro i j hi hj hji e
      refine ⟨i, List.mem_range.2 hi, ?_⟩
      rw [Bool.not_eq_true, List.all_eq_false]
      refine ⟨hs[j], ?_, ?_⟩
      · rw [List.mem_take_iff_getElem]
        exact ⟨j, by omega, rfl⟩
      · simp [hi, e]
    rcases Nat.lt_trichotomy i j with hij | rfl | hij
    · exact key j i hj hi hij (good_comm e)
    · exfalso
      have := (good_iff.1 e).1
      unfold cross at this
      simp only at this
      split at this <;> simp only at this <;> omega
    · exact key i j hi hj hij e
/-- Who has a place has a corner, if there is an end to the east and to the north. -/
theorem hasPl_of {c : Cr} {hs : List Hf} (hc : c.inA hs) (hx : ∃ h ∈ hs, h.a = 1 ∧ h.b = 0) (hy : ∃ h ∈ hs, h.a = 0 ∧ h.b = 1) : hasPl hs = true := by
  obtain ⟨sx, hsx, ax, bx⟩ := hx
  obtain ⟨sy, hsy, ay, by'⟩ := hy
  obtain ⟨g, hg, hg0, hgm⟩ := exists_first c 1 0 hs ⟨sx, hsx, by simp [Hf.dot, ax]⟩
  have h1 := hc.push hg hg0 hgm
  have ga : 0 < g.a := by simpa [Hf.dot] using hg0
  have t1 : (c.push g 1 0).slack g = 0 := by rw [slack_push]; omega
  generalize c.push g 1 0 = c1 at h1 t1
  obtain ⟨h, hh, hh0, hhm⟩ := exists_first c1 (-g.b) g.a hs ⟨sy, hsy, by simp [Hf.dot, ay, by', ga]⟩
  have h2 := h1.push hh hh0 hhm
  have hz : g.dot (-g.b) g.a = 0 := by simp only [Hf.dot, Int.mul_neg]; rw [Int.mul_comm g.b]; omega
  have t2 : (c1.push h (-g.b) g.a).slack g = 0 := by rw [slack_push, hz, t1]; simp
  have t3 : (c1.push h (-g.b) g.a).slack h = 0 := by rw [slack_push]; omega
  have hp : 0 < g.a * h.b - h.a * g.b := by
    have : h.dot (-g.b) g.a = g.a * h.b - h.a * g.b := by simp only [Hf.dot, Int.mul_neg]; rw [Int.mul_comm h.b]; omega
    omega
  exact hasPl_iff.2 ⟨g, hg, h, hh, good_iff.2 (h2.meet t2 t3 hp)⟩
theorem cor_iff {hs : List Hf} {g h : Hf} {c : Cr} : cor hs g h = some c ↔ good hs g h = true ∧ c = cross g h := by
  have h0 := cross_pos (g := g) (h := h)
  unfold cor good
  by_cases h1 : (cross g h).p = 0
  · simp [h1]
  · have h2 : 0 < (cross g h).p := by omega
    rw [show decide (0 < (cross g h).p) = true by simpa using h2]
    generalize hs.all (cross g h).isIn = b
    cases b
    · simp
    · simp [h1]; exact eq_comm
theorem mem_crnR {hs : List Hf} {c : Cr} : ∀ {i : Nat}, i ≤ hs.length → (c ∈ crnR hs i ↔ ∃ k, k < i ∧ ∃ h, hs[k]? = some h ∧ ∃ g ∈ hs.take k, cor hs g h = some c)
  | 0, _ => by simp [crnR]
  | i + 1, hi => by
    rw [crnR_succ (List.getElem?_eq_getElem (show i < hs.length by omega)), List.mem_append, mem_crnR (by omega)]
    unfold rowR
    rw [List.mem_filterMap]
    constructor
    · rintro (⟨k, hk, h⟩ | h)
      · exact ⟨k, by omega, h⟩
      · exact ⟨i, by omega, hs[i], List.getElem?_eq_getElem _, h⟩
    · rintro ⟨k, hk, h, h1, h2⟩
      by_cases e : k = i
      · subst e
        right
        rw [List.getElem?_eq_getElem (show k < hs.length by omega)] at h1
        cases h1
        exact h2
      · exact .inl ⟨k, by omega, h, h1, h2⟩
theorem mem_crn {hs : List Hf} {c : Cr} : c ∈ crnR hs hs.length ↔ ∃ g ∈ hs, ∃ h ∈ hs, good hs g h = true ∧ c = cross g h := by
  rw [mem_crnR (Nat.le_refl _)]
  constructor
  · rintro ⟨k, hk, h, h1, g, h2, h3⟩
    exact ⟨g, List.mem_of_mem_take h2, h, List.mem_of_getElem? h1, cor_iff.1 h3⟩
  · rintro ⟨g, hg, h, hh, e, rfl⟩
    obtain ⟨i, hi, rfl⟩ := List.mem_iff_getElem.1 hg
    obtain ⟨j, hj, rfl⟩ := List.mem_iff_getElem.1 hh
    have hp : (cross hs[i] hs[j]).p ≠ 0 := by have := (good_iff.1 e).1; omega
    rcases Nat.lt_trichotomy i j with hij | rfl | hij
    · refine ⟨j, hj, hs[j], List.getElem?_eq_getElem _, hs[i], ?_, cor_iff.2 ⟨e, rfl⟩⟩
      rw [List.mem_take_iff_getElem]
      exact ⟨i, by omega, rfl⟩
    · exfalso
      unfold cross at hp
      simp only at hp
      split at hp <;> simp only at hp <;> omega
    · refine ⟨i, hi, hs[i], List.getElem?_eq_getElem _, hs[j], ?_, cor_iff.2 ⟨good_comm e, cross_comm_good (hs := hs) hp⟩⟩
      rw [List.mem_take_iff_getElem]
      exact ⟨j, by omega, rfl⟩
/-- All corners are so. -/
theorem crn_all {hs : List Hf} {p : Cr → Bool} : (crnR hs hs.length).all p = (List.range hs.length).all fun i => (hs.take i).all fun h => !(good hs (hs.getD i ⟨0, 0, 0⟩) h && !p (cross (hs.getD i ⟨0, 0, 0⟩) h)) := by
  rw [Bool.eq_iff_iff]
  simp only [List.all_eq_true, List.mem_range, Bool.not_eq_true', Bool.and_eq_false_iff, Bool.not_eq_false']
  constructor
  · intro h i hi g hg
    cases e : good hs (hs.getD i ⟨0, 0, 0⟩) g
    · exact .inl rfl
    · exact .inr (h _ (mem_crn.2 ⟨hs.getD i ⟨0, 0, 0⟩, by simp [hi], g, List.mem_of_mem_take hg, e, rfl⟩))
  · intro h c hc
    obtain ⟨k, hk, q, h1, g, h2, h3⟩ := (mem_crnR (Nat.le_refl _)).1 hc
    obtain ⟨e, rfl⟩ := cor_iff.1 h3
    have hq : hs.getD k ⟨0, 0, 0⟩ = q := by simp [List.getD, h1]
    rcases h k hk g h2 with h4 | h4
    · rw [hq, good_comm e] at h4; cases h4
    · rw [hq] at h4
      rwa [cross_comm_good (hs := hs) (by have := (good_iff.1 e).1; omega)]
theorem mul_max {a s lo hi : Int} (h1 : lo ≤ s) (h2 : s ≤ hi) : a * s ≤ max (a * lo) (a * hi) := by
  rcases Int.le_total 0 a with h | h
  · have := Int.mul_le_mul_of_nonneg_left h2 h
    omega
  · have := Int.mul_le_mul_of_nonneg_left h1 (show 0 ≤ -a by omega)
    rw [Int.neg_mul, Int.neg_mul] at this
    omega
/-- Who was in the halves is in the moved ones, however far he went. -/
theorem Cr.inA.mv {c : Cr} {hs : List Hf} (hc : c.inA hs) {t : Tk} {u v : Int} (hu : farLo t.d t.d' t.e t.e' ≤ u) (hu' : u ≤ farHi t.d t.d' t.e t.e') (hv : farLo t.d t.d' t.n t.n' ≤ v) (hv' : v ≤ farHi t.d t.d' t.n t.n') :
    (⟨c.x + c.p * u, c.y + c.p * v, c.p⟩ : Cr).inA (hs.map (Hf.mv t)) := by
  refine ⟨hc.1, fun g hg => ?_⟩
  obtain ⟨h, hh, rfl⟩ := List.mem_map.1 hg
  have h0 := hc.2 h hh
  simp only [Hf.mv]
  have m1 := mul_max (a := h.a) hu hu'
  have m2 := mul_max (a := h.b) hv hv'
  generalize max (h.a * farLo t.d t.d' t.e t.e') (h.a * farHi t.d t.d' t.e t.e') = A at *
  generalize max (h.b * farLo t.d t.d' t.n t.n') (h.b * farHi t.d t.d' t.n t.n') = B at *
  have m3 := Int.mul_le_mul_of_nonneg_left (show h.a * u + h.b * v ≤ A + B by omega) (Int.le_of_lt hc.1)
  have e1 : h.a * (c.x + c.p * u) + h.b * (c.y + c.p * v) = h.a * c.x + h.b * c.y + c.p * (h.a * u + h.b * v) := by
    simp only [Int.mul_add]
    have f1 : h.a * (c.p * u) = c.p * (h.a * u) := by rw [← Int.mul_assoc, Int.mul_comm h.a, Int.mul_assoc]
    have f2 : h.b * (c.p * v) = c.p * (h.b * v) := by rw [← Int.mul_assoc, Int.mul_comm h.b, Int.mul_assoc]
    omega
  have e2 : (h.c + (A + B)) * c.p = h.c * c.p + c.p * (A + B) := by rw [Int.add_mul, Int.mul_comm (A + B)]
  omega
theorem okA_dirs {hs : List Hf} (h : okA hs = true) : (∃ h ∈ hs, h.a = 1 ∧ h.b = 0) ∧ ∃ h ∈ hs, h.a = 0 ∧ h.b = 1 := by
  simp only [okA, Bool.and_eq_true, decide_eq_true_eq] at h
  obtain ⟨⟨⟨h1, h2⟩, h3⟩, h4⟩ := h
  match hs, h1 with
  | a0 :: a1 :: a2 :: a3 :: l, _ =>
    simp [sides, Hf.par] at h4
    exact ⟨⟨a0, by simp, h4.1⟩, ⟨a2, by simp, by omega⟩⟩
  | [], h => simp at h
  | [_], h => simp at h
  | [_, _], h => simp at h
  | [_, _, _], h => simp at h
theorem mv_dirs {hs : List Hf} {t : Tk} : (hs.map (Hf.mv t)).zipWith Hf.par (sides 0 0 0 0) = hs.zipWith Hf.par (sides 0 0 0 0) := by
  rw [List.zipWith_map_left]; rfl
theorem mv_okA {hs : List Hf} {t : Tk} (h : okA hs = true) : okA (hs.map (Hf.mv t)) = (hs.map (Hf.mv t)).all Hf.ok := by
  unfold okA at h ⊢
  rw [mv_dirs, List.length_map]
  simp only [Bool.and_eq_true] at h
  rw [h.2, h.1.1.1, h.1.1.2]
  simp
/-- An area with a place has one after each trek. -/
theorem mv_hasPl {hs : List Hf} {t : Tk} (ho : okA hs = true) (hp : hasPl hs = true) : hasPl (hs.map (Hf.mv t)) = true := by
  obtain ⟨g, hg, k, hk, e⟩ := hasPl_iff.1 hp
  have hc := good_iff.1 e
  obtain ⟨⟨sx, h1, h2⟩, ⟨sy, h3, h4⟩⟩ := okA_dirs ho
  have a1 : farLo t.d t.d' t.e t.e' ≤ farHi t.d t.d' t.e t.e' := by unfold farLo farHi; omega
  have a2 : farLo t.d t.d' t.n t.n' ≤ farHi t.d t.d' t.n t.n' := by unfold farLo farHi; omega
  exact hasPl_of (hc.mv (Int.le_refl _) a1 (Int.le_refl _) a2) ⟨sx.mv t, List.mem_map_of_mem h1, h2⟩ ⟨sy.mv t, List.mem_map_of_mem h3, h4⟩
/-- How far a place is in a direction, against another one. -/
def Cr.far (c q : Cr) (u v : Int) : Prop := (u * q.x + v * q.y) * c.p ≤ (u * c.x + v * c.y) * q.p
abbrev U8 (n : Int) : D := .int .u8 n
theorem shal1_int {n : Nat} {k : IntKind} {i : Int} : D.shal1 n (.int k i) = true := by cases n <;> rfl
theorem shal1_hfs {n : Nat} {hs : List Hf} : D.shal1 (n + 1) (hfs hs) = true := by
  simp [D.shal1, D.shal0, hfs, Hf.d, shal1_int]
theorem shal_hfs {n : Nat} {hs : List Hf} : D.shal (n + 1) (hfs hs) = true := shal1_hfs
/-- A place. -/
def plOK (x y : Int) : Bool := inR x (-10000000) 10000000 && inR y (-10000000) 10000000
def askOK (x y f : Int) : Bool := plOK x y && inR f 0 10000000
theorem e153 (x y : Int) : evL FN 153 [I x, I y] = some (.bool (plOK x y)) := by
  refine evL_of (F := F153) rfl ?_
  unfold plOK
  cases e1 : inR x (-10000000) 10000000 <;>
    simp [F153, Fn.denV, fits, T.denV, denVK, denL, E.den, D.cells, D.den1, binD, outOf, e156, e1]
def nearD (x y f : Int) : List D := [U8 3, I x, I y, I 0, I 0, I 0, I 0, I 0, I 0, I f]
theorem e103n (x y f : Int) : evL FN 103 [.node (nearD x y f)] = some (.bool (askOK x y f)) := by
  refine evL_of (F := F103) rfl ?_
  unfold askOK
  have h1 := e153 x y
  cases e1 : plOK x y <;> rw [e1] at h1 <;>
    simp [nearD, F103, Fn.denV, fits, T.denV, denVK, denL, E.den, D.cells, D.den1, binD, outOf, h1, e156]
theorem askIn {x y f : Int} (h : askOK x y f = true) : (-10000000 ≤ x ∧ x ≤ 10000000) ∧ (-10000000 ≤ y ∧ y ≤ 10000000) ∧ (0 ≤ f ∧ f ≤ 10000000) := by
  simp [askOK, plOK, inR] at h
  omega
/-- The halves of what is near. -/
def nr (x y f : Int) : List Hf := sides (x - f) (x + f) (y - f) (y + f)
theorem nrIn {x y f : Int} (h : askOK x y f = true) : ∀ k ∈ nr x y f, k.In := by
  have := askIn h
  intro k hk
  simp only [nr, sides, List.mem_cons, List.not_mem_nil, or_false] at hk
  rcases hk with rfl | rfl | rfl | rfl <;> exact ⟨by simp, by simp, by simp only; omega⟩
theorem e164 {x y f : Int} (h : askOK x y f = true) : evL FN 164 [.node (nearD x y f)] = some (hfs (nr x y f)) := by
  refine evL_of (F := F164) rfl ?_
  have hh := askIn h
  have w1 := wrapI (x := x - f) (by omega)
  have w2 := wrapI (x := x + f) (by omega)
  have w3 := wrapI (x := y - f) (by omega)
  have w4 := wrapI (x := y + f) (by omega)
  have h64 := e146 (a := x - f) (b := x + f) (c := y - f) (d := y + f) (by omega) (by omega) (by omega) (by omega)
  simp [nearD, nr, F164, Fn.denV, fits, T.denV, denVK, denL, E.den, D.cells, D.den1, binD, outOf, w1, w2, w3, w4, h64]
theorem e107n {x y f : Int} (h : askOK x y f = true) : evL FN 107 [.node (nearD x y f)] = some (hfs (nr x y f)) := by
  refine evL_of (F := F107) rfl ?_
  have h1 := e164 h
  simp only [nearD] at h1
  simp [nearD, F107, Fn.denV, fits, T.denV, denVK, denL, E.den, D.cells, D.den1, binD, outOf, h1]
theorem cap25 {n : Nat} (h : n < 1000000) : (n + 1) * 25 ≤ 1099511627776 := by omega
theorem cap25i {n : Int} (h : n < 1000000) : (n + 1) * 25 ≤ 1099511627776 := by omega
theorem den_appZ3 {n : Int} (h : 0 ≤ n) (h2 : n < 1000000) : D.den1 (.appZ 3 24 [I 0, I 0, I 0]) [I n] = some (.list (List.replicate n.toNat [I 0, I 0, I 0])) := by
  have hc : (n + 1) * ((24 : Nat) + 1) ≤ 1099511627776 := by omega
  simp only [D.den1]
  rw [if_pos ⟨h, hc, rfl⟩]
def blk52 : T := .ite (.v 5) (.op (.appZ 3 24 [.int .i64 (0), .int .i64 (0), .int .i64 (0)]) [.v 4] <|
    .op (.sl 3 false true) [.v 6, .c (.int .i64 (0))] <|
    .leaf 0) <|
   .leaf 1
theorem b52a {x0 x1 x2 x3 : D} {n : Int} {FL : FuncId → List D → Option D} (h : 0 ≤ n) (h2 : n < 1000000) (hz : 0 < n) : blk52.denV FL [x0, x1, x2, x3, I n, .bool true] = some (0, [x0, x1, x2, x3, I n, .bool true, .list (List.replicate n.toNat [I 0, I 0, I 0]), .list []]) := by
  have hA := den_appZ3 h h2
  unfold blk52
  simp only [T.denV, E.den, denL, List.getD_cons_zero, List.getD_cons_succ, if_true, List.cons_append, List.nil_append]
  rw [hA]
  simp only []
  have : D.den1 (.sl 3 false true) [.list (List.replicate n.toNat [I 0, I 0, I 0]), I 0] = some (.list []) := by
    simp [D.den1, D.upto]; omega
  simp [this, denL, E.den]
theorem b52b {x0 x1 x2 x3 : D} {n : Int} {FL : FuncId → List D → Option D} : blk52.denV FL [x0, x1, x2, x3, I n, .bool false] = some (1, [x0, x1, x2, x3, I n, .bool false]) := by
  unfold blk52
  simp [T.denV, E.den, denL]
theorem F106_eq : F106 = ⟨[none],
 .op .len [.v 0] <|
 .loop [.c (.int .i64 (0)), .c (.int .i64 (0))] (
  .op (.bin .lss) [.v 3, .v 1] <|
  .ite (.v 4) (.op (.idx 1) [.v 0, .v 3] <|
   .op (.elem 0 none) [.v 0, .v 3] <|
   .op .len [.v 6] <|
   .op (.bin .add) [.v 2, .v 7] <|
   .op (.bin .lss) [.v 8, .c (.int .i64 (0))] <|
   .ite (.v 9) (.fail) <|
   .op (.bin .add) [.v 3, .c (.int .i64 (1))] <|
   .leaf 0) <|
  .leaf 1) [([.v 8, .v 10], none), ([.v 2], some 0)] [.op (.bin .lss) [.v 2, .c (.int .i64 (0))] <|
  .ite (.v 3) (.fail) <|
  .op (.bin .sub) [.v 2, .c (.int .i64 (0))] <|
  .op (.bin .gtr) [.v 4, .c (.int .i64 (0))] <|
  .blk (blk52) [([.v 7], 0), ([.c (.list [])], 0)] [.op .len [.v 0] <|
   .loop [.c (.int .i64 (0)), .v 6] (
    .op (.bin .lss) [.v 8, .v 7] <|
    .ite (.v 10) (.op (.idx 1) [.v 0, .v 8] <|
     .op (.elem 0 none) [.v 0, .v 8] <|
     .op (.app 3 24) [.v 9, .v 12] <|
     .op (.bin .add) [.v 8, .c (.int .i64 (1))] <|
     .leaf 0) <|
    .leaf 1) [([.v 14, .v 13], none), ([.v 9], some 0)] [.leaf 0]]],
 [.v 8], .own 3⟩ := rfl
theorem den_bin {op : BinOp} {x y : D} : D.den1 (.bin op) [x, y] = binD op x y := rfl
/-- Two lists, one after the other. -/
theorem e106 (a b : List Hf) (hl : a.length + b.length < 1000000) : evL FN 106 [.list [[hfs a], [hfs b]]] = some (hfs (a ++ b)) := by
  refine evL_of (F := F106) rfl ?_
  rw [F106_eq]
  have hn : ((a.length : Int) + b.length).toNat = a.length + b.length := by omega
  have w1 := wrapI (x := (a.length : Int)) (by omega)
  have w2 := wrapI (x := (a.length : Int) + b.length) (by omega)
  have c1 : ¬ ((a.length : Int) < 0) := by omega
  have c2 : ¬ ((a.length : Int) + b.length < 0) := by omega
  have hcap : ((a.length : Int) + b.length + 1) * 25 ≤ 1099511627776 := cap25i (by omega)
  have hcap1 : (a.length + 1) * 25 ≤ 1099511627776 := cap25 (by omega)
  have hcap2 : (a.length + b.length + 1) * 25 ≤ 1099511627776 := cap25 hl
  have i0 : D.idx (.int .i64 0) 2 = some 0 := rfl
  have i1 : D.idx (.int .i64 1) 2 = some 1 := rfl
  have v1 : IntKind.i64.wrap 1 = 1 := by decide
  have v2 : IntKind.i64.wrap 2 = 2 := by decide
  have hall : ∀ l : List Hf, (l.map Hf.d).all (fun y => y.length == 3) = true := fun l => by simp [Hf.d]
  have cn : (0 : Int) ≤ a.length + b.length := by omega
  simp [Fn.denV, fits, T.denV, denVK, denL, E.den, D.cells, D.den1, binD, outOf, hfs]
  rw [iterL_eq]
  simp [i0, partD, outOf, denL, E.den, w1, c1, v1]
  rw [iterL_eq]
  simp [i1, partD, outOf, denL, E.den, w2, c2, v2]
  rw [iterL_eq]
  have cm : (a.length : Int) + b.length < 1000000 := by omega
  have key : ∀ g : List D → Option (Option Nat × List D),
      g [I 0, .list []] = some (none, [I 1, hfs a]) → g [I 1, hfs a] = some (none, [I 2, hfs (a ++ b)]) → g [I 2, hfs (a ++ b)] = some (some 0, [hfs (a ++ b)]) → iterL g [I 0, .list []] = some (0, [hfs (a ++ b)]) := by
    intro g h1 h2 h3
    rw [iterL_eq, h1]; simp only
    rw [iterL_eq, h2]; simp only
    rw [iterL_eq, h3]
  have e0 : ∀ n : Nat, D.upto (.int .i64 0) n = some 0 := fun n => by simp [D.upto]
  have hab : (a ++ b).length = a.length + b.length := List.length_append
  clear w1 c1 hcap hn
  generalize (a.length : Int) + b.length = n at *
  simp [outOf, denL, E.den, den_bin, binD]
  simp only [denVK]
  rw [T.denV]
  simp [denL, E.den, den_bin, binD, c2]
  rw [T.denV]
  simp [denL, E.den, den_bin, binD, c2]
  rw [T.denV]
  simp [denL, E.den, den_bin, binD, c2, w2]
  rw [T.denV]
  simp [denL, E.den, den_bin, binD, c2]
  rw [T.denV]
  by_cases hz : (0 : Int) < n
  · have hb := b52a (FL := evL FN) (x0 := .list [[hfs a], [hfs b]]) (x1 := I 2) (x2 := I n) (x3 := .bool false) cn cm hz
    simp only [I, hfs] at hb
    simp [hz, hb, outOf, denL, E.den, denVK]
    rw [T.denV]
    simp [denL, E.den, D.den1]
    rw [T.denV]
    simp only [denL, E.den, List.getD_cons_zero, List.getD_cons_succ]
    rw [key]
    · simp [denVK, T.denV, E.den, hfs]
    · simp [T.denV, D.den1, binD, i0, partD, outOf, denL, E.den, v1, hfs, Hf.d, hcap1]
    · simp [T.denV, D.den1, binD, i1, partD, outOf, denL, E.den, v2, hfs, Hf.d, hcap2]
    · simp [T.denV, D.den1, binD, outOf, denL, E.den, hfs]
  · have hb := b52b (FL := evL FN) (x0 := .list [[hfs a], [hfs b]]) (x1 := I 2) (x2 := I n) (x3 := .bool false) (n := n)
    simp only [I, hfs] at hb
    simp [hz, hb, outOf, denL, E.den, denVK]
    rw [T.denV]
    simp [denL, E.den, D.den1]
    rw [T.denV]
    simp only [denL, E.den, List.getD_cons_zero, List.getD_cons_succ]
    rw [key]
    · simp [denVK, T.denV, E.den, hfs]
    · simp [T.denV, D.den1, binD, i0, partD, outOf, denL, E.den, v1, hfs, Hf.d, hcap1]
    · simp [T.denV, D.den1, binD, i1, partD, outOf, denL, E.den, v2, hfs, Hf.d, hcap2]
    · simp [T.denV, D.den1, binD, outOf, denL, E.den, hfs]
end Go.Q.G
