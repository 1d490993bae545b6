/- Guide: treks and their parts. -/
import Derived.Test.YtcgeghpmnnhcpaaGg5
import Derived.Test.YtcgeghpmnnhcpaaGsi
import Derived.Test.YtcgeghpmnnhcpaaGb5
set_option linter.unusedVariables false
set_option linter.unusedSimpArgs false
namespace Go.Q
open Go.V
theorem mul_min {a s lo hi : Int} (h1 : lo ≤ s) (h2 : s ≤ hi) : min (a * lo) (a * hi) ≤ a * s := by
  rcases Int.le_total 0 a with h | h
  · have := Int.mul_le_mul_of_nonneg_left h1 h
    omega
  · have := Int.mul_le_mul_of_nonneg_left h2 (show 0 ≤ -a by omega)
    rw [Int.neg_mul, Int.neg_mul] at this
    omega
/-- How far one goes lies between the ends. -/
theorem far_in {a b c d x y : Int} (h1 : a ≤ x) (h2 : x ≤ b) (h3 : c ≤ y) (h4 : y ≤ d) : farLo a b c d ≤ x * y ∧ x * y ≤ farHi a b c d := by
  have m1 := mul_max (a := x) h3 h4
  have m2 := mul_min (a := x) h3 h4
  have m3 := mul_max (a := c) h1 h2
  have m4 := mul_min (a := c) h1 h2
  have m5 := mul_max (a := d) h1 h2
  have m6 := mul_min (a := d) h1 h2
  rw [Int.mul_comm c x, Int.mul_comm c a, Int.mul_comm c b] at m3 m4
  rw [Int.mul_comm d x, Int.mul_comm d a, Int.mul_comm d b] at m5 m6
  unfold farLo farHi
  omega
theorem far_sub {a b c d a' b' c' d' : Int} (h1 : a ≤ a') (h2 : a' ≤ b') (h3 : b' ≤ b) (h4 : c ≤ c') (h5 : c' ≤ d') (h6 : d' ≤ d) : farLo a b c d ≤ farLo a' b' c' d' ∧ farHi a' b' c' d' ≤ farHi a b c d := by
  have p1 := far_in (x := a') (y := c') (a := a) (b := b) (c := c) (d := d) (by omega) (by omega) (by omega) (by omega)
  have p2 := far_in (x := a') (y := d') (a := a) (b := b) (c := c) (d := d) (by omega) (by omega) (by omega) (by omega)
  have p3 := far_in (x := b') (y := c') (a := a) (b := b) (c := c) (d := d) (by omega) (by omega) (by omega) (by omega)
  have p4 := far_in (x := b') (y := d') (a := a) (b := b) (c := c) (d := d) (by omega) (by omega) (by omega) (by omega)
  constructor
  · rw [show farLo a' b' c' d' = min (min (min (a' * c') (a' * d')) (b' * c')) (b' * d') from rfl]
    omega
  · rw [show farHi a' b' c' d' = max (max (max (a' * c') (a' * d')) (b' * c')) (b' * d') from rfl]
    omega
theorem farLo_le (a b c d : Int) : farLo a b c d ≤ farHi a b c d := by unfold farLo farHi; omega
/-- A trek that is known better. -/
structure Tk.Sub (s t : Tk) : Prop where
  d : t.d ≤ s.d ∧ s.d ≤ s.d' ∧ s.d' ≤ t.d'
  e : t.e ≤ s.e ∧ s.e ≤ s.e' ∧ s.e' ≤ t.e'
  n : t.n ≤ s.n ∧ s.n ≤ s.n' ∧ s.n' ≤ t.n'
theorem mv_sub {s t : Tk} (h : s.Sub t) (k : Hf) : (k.mv s).c ≤ (k.mv t).c := by
  have h1 := far_sub h.d.1 h.d.2.1 h.d.2.2 h.e.1 h.e.2.1 h.e.2.2
  have h2 := far_sub h.d.1 h.d.2.1 h.d.2.2 h.n.1 h.n.2.1 h.n.2.2
  have l1 := farLo_le s.d s.d' s.e s.e'
  have l2 := farLo_le s.d s.d' s.n s.n'
  simp only [Hf.mv]
  have a1 := mul_max (a := k.a) h1.1 (by omega : farLo s.d s.d' s.e s.e' ≤ farHi t.d t.d' t.e t.e')
  have a2 := mul_max (a := k.a) (by omega : farLo t.d t.d' t.e t.e' ≤ farHi s.d s.d' s.e s.e') h1.2
  have a3 := mul_max (a := k.b) h2.1 (by omega : farLo s.d s.d' s.n s.n' ≤ farHi t.d t.d' t.n t.n')
  have a4 := mul_max (a := k.b) (by omega : farLo t.d t.d' t.n t.n' ≤ farHi s.d s.d' s.n s.n') h2.2
  omega
theorem inA_sub {s t : Tk} (h : s.Sub t) {hs : List Hf} {q : Cr} (hq : q.inA (hs.map (Hf.mv s))) : q.inA (hs.map (Hf.mv t)) := by
  refine ⟨hq.1, fun g hg => ?_⟩
  obtain ⟨k, hk, rfl⟩ := List.mem_map.1 hg
  have h1 := hq.2 (k.mv s) (List.mem_map_of_mem hk)
  have h2 := Int.mul_le_mul_of_nonneg_right (mv_sub h k) (Int.le_of_lt hq.1)
  have h3 : (k.mv s).a = (k.mv t).a := rfl
  have h4 : (k.mv s).b = (k.mv t).b := rfl
  rw [h3, h4] at h1
  omega
theorem bd_inner2 {hs ks : List Hf} (hS : Sided hs) (h : ∀ q : Cr, q.inA ks → q.inA hs) (hp : hasPl ks = true) : (bdS hs).a ≤ (bdS ks).a ∧ (bdS ks).b ≤ (bdS hs).b ∧ (bdS hs).c ≤ (bdS ks).c ∧ (bdS ks).d ≤ (bdS hs).d := by
  have hp2 : hasPl hs = true := by
    obtain ⟨c, hc⟩ := hasPl_place hp
    exact (hasPl_sided hS).2 ⟨c, h c hc⟩
  unfold bdS
  cases e : crnR hs hs.length with
  | nil => rw [crn_nil.1 e] at hp2; cases hp2
  | cons c cs =>
    cases e2 : crnR ks ks.length with
    | nil => rw [crn_nil.1 e2] at hp; cases hp
    | cons c' cs' =>
      have key : ∀ d ∈ c' :: cs', 0 < d.p ∧ _ := fun d hd => ⟨(crn_inA (e2 ▸ hd)).1, in_bounds hS e (q := d) (h d (crn_inA (e2 ▸ hd)))⟩
      simp only
      rw [lo2_ge, hi2_le, lo2_ge, hi2_le]
      exact ⟨fun d hd => (fX_ge (key d hd).1).2 (key d hd).2.1, fun d hd => (gX_le (key d hd).1).2 (key d hd).2.2.1, fun d hd => (fY_ge (key d hd).1).2 (key d hd).2.2.2.1, fun d hd => (gY_le (key d hd).1).2 (key d hd).2.2.2.2⟩
/-! Days in parts -/
theorem farLo_eq {d d' e e' : Int} (h0 : 0 ≤ d) (h1 : d ≤ d') (h2 : e ≤ e') : farLo d d' e e' = if 0 ≤ e then d * e else d' * e := by
  have a1 := Int.mul_le_mul_of_nonneg_left h2 h0
  have a2 := Int.mul_le_mul_of_nonneg_left h2 (show 0 ≤ d' by omega)
  unfold farLo
  split
  · have := Int.mul_le_mul_of_nonneg_right h1 (show 0 ≤ e by omega)
    omega
  · have := Int.mul_le_mul_of_nonneg_right h1 (show 0 ≤ -e by omega)
    rw [Int.mul_neg, Int.mul_neg] at this
    omega
theorem farHi_eq {d d' e e' : Int} (h0 : 0 ≤ d) (h1 : d ≤ d') (h2 : e ≤ e') : farHi d d' e e' = if 0 ≤ e' then d' * e' else d * e' := by
  have a1 := Int.mul_le_mul_of_nonneg_left h2 h0
  have a2 := Int.mul_le_mul_of_nonneg_left h2 (show 0 ≤ d' by omega)
  unfold farHi
  split
  · have := Int.mul_le_mul_of_nonneg_right h1 (show 0 ≤ e' by omega)
    omega
  · have := Int.mul_le_mul_of_nonneg_right h1 (show 0 ≤ -e' by omega)
    rw [Int.mul_neg, Int.mul_neg] at this
    omega
theorem farLo_add {d d' m m' e e' : Int} (h0 : 0 ≤ d) (h1 : d ≤ d') (k0 : 0 ≤ m) (k1 : m ≤ m') (h2 : e ≤ e') : farLo (d + m) (d' + m') e e' = farLo d d' e e' + farLo m m' e e' := by
  rw [farLo_eq h0 h1 h2, farLo_eq k0 k1 h2, farLo_eq (by omega) (by omega) h2]
  split <;> rw [Int.add_mul]
theorem farHi_add {d d' m m' e e' : Int} (h0 : 0 ≤ d) (h1 : d ≤ d') (k0 : 0 ≤ m) (k1 : m ≤ m') (h2 : e ≤ e') : farHi (d + m) (d' + m') e e' = farHi d d' e e' + farHi m m' e e' := by
  rw [farHi_eq h0 h1 h2, farHi_eq k0 k1 h2, farHi_eq (by omega) (by omega) h2]
  split <;> rw [Int.add_mul]
theorem max_add {a x y x' y' : Int} (h : x ≤ y) (h' : x' ≤ y') : max (a * (x + x')) (a * (y + y')) = max (a * x) (a * y) + max (a * x') (a * y') := by
  rw [Int.mul_add, Int.mul_add]
  rcases Int.le_total 0 a with k | k
  · have := Int.mul_le_mul_of_nonneg_left h k
    have := Int.mul_le_mul_of_nonneg_left h' k
    omega
  · have h1 := Int.mul_le_mul_of_nonneg_left h (show 0 ≤ -a by omega)
    have h2 := Int.mul_le_mul_of_nonneg_left h' (show 0 ≤ -a by omega)
    rw [Int.neg_mul, Int.neg_mul] at h1 h2
    omega
/-- A trek is its parts. -/
theorem mv_mv {t : Tk} {m m' : Int} (ht : t.ok = true) (k0 : 0 ≤ m) (k1 : m ≤ m') (k : Hf) : (k.mv t).mv ⟨m, m', t.e, t.e', t.n, t.n'⟩ = k.mv ⟨t.d + m, t.d' + m', t.e, t.e', t.n, t.n'⟩ := by
  simp only [Tk.ok, inS, Bool.and_eq_true, decide_eq_true_eq] at ht
  simp only [Hf.mv]
  rw [farLo_add (by omega) (by omega) k0 k1 (by omega), farHi_add (by omega) (by omega) k0 k1 (by omega), farLo_add (by omega) (by omega) k0 k1 (by omega), farHi_add (by omega) (by omega) k0 k1 (by omega),
    max_add (farLo_le _ _ _ _) (farLo_le _ _ _ _), max_add (farLo_le _ _ _ _) (farLo_le _ _ _ _)]
  congr 1
  omega
end Go.Q
