/- Ported: camel (Rc0) -/
import Derived.Test.YtimbhebamjnfmaaPa3
set_option linter.unusedVariables false
set_option linter.unusedSimpArgs false
set_option maxRecDepth 100000
namespace Go.Q
open Go.V
theorem lo_ge {b : Br} {m : Mr} {c : Cm} {k : Nat} : ∀ n : Nat, k ≤ 60 → (∀ i, i < k → weak b m (cI b m c i) = false) → (k : Int) ≤ loS b m c n
  | 0, h, _ => by unfold loS; omega
  | n + 1, h, hw => by
    have ih := lo_ge (b := b) (m := m) (c := c) n h hw
    unfold loS
    by_cases hk : n < k
    · rw [hw n hk]; simpa using ih
    · split <;> omega
theorem lasL_iff {b : Br} {m : Mr} {c : Cm} {k : Nat} : (k : Int) ≤ lasL b m c ↔ k ≤ 60 ∧ ∀ i, i < k → dead b m (cI b m c i) = false ∧ weak b m (cI b m c i) = false := by
  constructor
  · intro h
    refine ⟨?_, fun i hi => (las_live (i := i) (by omega)).2⟩
    cases k with
    | zero => omega
    | succ k => have := (las_live (b := b) (m := m) (c := c) (i := k) (by omega)).1; omega
  · rintro ⟨h1, h2⟩
    unfold lasL
    cases e : firstN (liv b m c) 60 0 with
    | none => exact lo_ge 60 h1 fun i hi => (h2 i hi).2
    | some j =>
      obtain ⟨-, q2, q3, -⟩ := firstN_some e
      have hj : k ≤ j := by
        by_cases hlt : j < k
        · have := (h2 j hlt).1
          simp [liv, this] at q3
        · omega
      have := lo_ge (b := b) (m := m) (c := c) j h1 fun i hi => (h2 i hi).2
      simp only
      omega
theorem lasH_iff {b : Br} {m : Mr} {c : Cm} {k : Nat} : (k : Int) ≤ lasH b m c ↔ k ≤ 60 ∧ ∀ i, i < k → dead b m (cI b m c i) = false := by
  unfold lasH
  cases e : firstN (liv b m c) 60 0 with
  | none =>
    have := firstN_none.1 e
    simp only
    refine ⟨fun h => ⟨by omega, fun i hi => by simpa [liv] using this i (by omega) (by omega)⟩, fun h => by omega⟩
  | some j =>
    obtain ⟨-, q2, q3, q4⟩ := firstN_some e
    simp only
    refine ⟨fun h => ⟨by omega, fun i hi => by simpa [liv] using q4 i (by omega) (by omega)⟩, fun h => ?_⟩
    by_cases hlt : j < k
    · have := h.2 j hlt
      simp [liv, this] at q3
    · omega
theorem las_nonneg {b : Br} {m : Mr} {c : Cm} : 0 ≤ lasL b m c ∧ 0 ≤ lasH b m c :=
  ⟨(lasL_iff (k := 0)).2 ⟨by omega, fun i hi => by omega⟩, (lasH_iff (k := 0)).2 ⟨by omega, fun i hi => by omega⟩⟩
/-- No less water and fat. -/
def noLess (c d : Cm) : Prop := c.x0 ≤ d.x0 ∧ c.x1 ≤ d.x1 ∧ c.x2 ≤ d.x2 ∧ c.x3 ≤ d.x3 ∧ c.x6 = d.x6
/-- The same day with a load that is no heavier. -/
def lighter (m k : Mr) : Prop := k.h = m.h ∧ 0 ≤ k.l ∧ k.l ≤ m.l ∧ k.t0 = m.t0 ∧ k.t1 = m.t1 ∧ k.e0 = m.e0 ∧ k.e1 = m.e1 ∧ k.q0 = m.q0 ∧ k.q1 = m.q1
theorem tdiv_mono {a x y k r : Int} (hk : 1 ≤ k) (hr : 0 ≤ r) (ha : 0 ≤ a) (hx : 0 ≤ x) (h : x ≤ y) : (a * x + r).tdiv k ≤ (a * y + r).tdiv k := by
  have h1 : 0 ≤ a * x := Int.mul_nonneg ha hx
  have h2 : a * x ≤ a * y := Int.mul_le_mul_of_nonneg_left h ha
  rw [Int.tdiv_eq_ediv_of_nonneg (by omega), Int.tdiv_eq_ediv_of_nonneg (by omega)]
  exact Int.ediv_le_ediv (by omega) (by omega)
theorem A_less {b : Br} (hb : BrOK b) {m k : Mr} (hm : MrOK m) (h : lighter m k) (mk : Bool) : A0 b k mk ≤ A0 b m mk ∧ A1 b k mk ≤ A1 b m mk ∧ A2 b k ≤ A2 b m ∧ A3 b k ≤ A3 b m := by
  obtain ⟨e1, l0, l1, e2, e3, -⟩ := h
  have hh := hm.h
  have hw : 0 ≤ wrk k ∧ wrk k ≤ wrk m := by
    unfold wrk
    rw [e1]
    exact ⟨Int.mul_nonneg (by omega) (by omega), Int.mul_le_mul_of_nonneg_left (by omega) (by omega)⟩
  have hbc := hb.c; have hbd := hb.d
  have s1 := tdiv_mono (a := b.c6) (k := 100000) (r := 0) (by omega) (by omega) (by omega) hw.1 hw.2
  have s2 := tdiv_mono (a := b.c7) (k := 100000) (r := 99999) (by omega) (by omega) (by omega) hw.1 hw.2
  have s3 := tdiv_mono (a := b.c8) (k := 100000) (r := 0) (by omega) (by omega) (by omega) hw.1 hw.2
  have s4 := tdiv_mono (a := b.c9) (k := 100000) (r := 99999) (by omega) (by omega) (by omega) hw.1 hw.2
  have r1 : ∀ x : Int, x + 100000 - 1 = x + 99999 := fun x => by omega
  simp only [Int.add_zero] at s1 s3
  unfold A0 A1 A2 A3
  rw [e2, e3, r1, r1, r1, r1]
  omega
theorem eve_less {b : Br} (hb : BrOK b) {m k : Mr} (hm : MrOK m) (h : lighter m k) {c d : Cm} (hc : noLess c d) : noLess (eve b m c) (eve b k d) := by
  obtain ⟨c1, c2, c3, c4, c5⟩ := hc
  obtain ⟨a1, a2, a3, a4⟩ := A_less hb hm h c.x6
  obtain ⟨-, -, -, -, -, q1, q2, q3, q4⟩ := h
  simp only [noLess, eve, clp]
  rw [← c5, q1, q2, q3, q4]
  refine ⟨?_, ?_, ?_, ?_, rfl⟩ <;> omega
theorem cI_less {b : Br} (hb : BrOK b) {m k : Mr} (hm : MrOK m) (h : lighter m k) {c : Cm} : ∀ i, noLess (cI b m c i) (cI b k c i)
  | 0 => ⟨by simp [cI], by simp [cI], by simp [cI], by simp [cI], rfl⟩
  | i + 1 => eve_less hb hm h (cI_less hb hm h i)
/-- With a lighter load it lasts no fewer days. -/
theorem las_less {b : Br} (hb : BrOK b) {m k : Mr} (hm : MrOK m) (h : lighter m k) {c : Cm} : lasL b m c ≤ lasL b k c ∧ lasH b m c ≤ lasH b k c := by
  have key : ∀ i, (dead b m (cI b m c i) = false → dead b k (cI b k c i) = false) ∧ (weak b m (cI b m c i) = false → weak b k (cI b k c i) = false) := fun i => by
    obtain ⟨c1, c2, c3, c4, c5⟩ := cI_less hb hm h (c := c) i
    obtain ⟨a1, a2, a3, a4⟩ := A_less hb hm h (cI b m c i).x6
    simp only [dead, weak, Bool.or_eq_false_iff, decide_eq_false_iff_not]
    rw [← c5]
    omega
  have hn := las_nonneg (b := b) (m := m) (c := c)
  constructor
  · have e : (((lasL b m c).toNat : Nat) : Int) = lasL b m c := Int.toNat_of_nonneg hn.1
    rw [← e]
    obtain ⟨h1, h2⟩ := lasL_iff.1 (Int.le_of_eq e)
    exact lasL_iff.2 ⟨h1, fun i hi => ⟨(key i).1 (h2 i hi).1, (key i).2 (h2 i hi).2⟩⟩
  · have e : (((lasH b m c).toNat : Nat) : Int) = lasH b m c := Int.toNat_of_nonneg hn.2
    rw [← e]
    obtain ⟨h1, h2⟩ := lasH_iff.1 (Int.le_of_eq e)
    exact lasH_iff.2 ⟨h1, fun i hi => (key i).1 (h2 i hi)⟩
end Go.Q
