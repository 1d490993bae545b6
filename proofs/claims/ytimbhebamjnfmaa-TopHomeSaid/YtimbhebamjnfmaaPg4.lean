/- Ported: guide (Gc4, Gd0, Gd1, Gg2, Gg5) -/
import Derived.Test.YtimbhebamjnfmaaPg3
set_option linter.unusedVariables false
set_option linter.unusedSimpArgs false
set_option maxRecDepth 100000
namespace Go.Q.G
open Go.V
theorem e32 (hs : List Hf) : evL FN 32 [.node [hfs hs]] = some (.bool (decide (60 < hs.length))) := by
  refine evL_of (F := F32) rfl ?_
  have : decide ((hs.length : Int) > 60) = decide (60 < hs.length) := by rw [decide_eq_decide]; omega
  simp [F32, Fn.denV, fits, T.denV, denVK, denL, E.den, D.cells, hfs, D.den1, binD, unD, this]
def foldI {σ α ε : Type} (step : Nat → σ → α → Except ε σ) : Nat → σ → List α → Except ε σ
  | _, s, [] => .ok s
  | i, s, x :: xs => match step i s x with
    | .ok s' => foldI step (i + 1) s' xs
    | .error e => .error e
def lo2 (f g : Cr → Int) (c : Cr) (cs : List Cr) : Int := cs.foldl (fun m c => min m (f c)) (f c)
def hi2 (f g : Cr → Int) (c : Cr) (cs : List Cr) : Int := cs.foldl (fun m c => max m (g c)) (g c)
def fX (c : Cr) : Int := c.x / c.p
def gX (c : Cr) : Int := -(-c.x / c.p)
def fY (c : Cr) : Int := c.y / c.p
def gY (c : Cr) : Int := -(-c.y / c.p)
theorem minD (a b : Int) : mxD false (I a) (I b) = some (I (min a b)) := by simp only [mxD, I]; congr 1; rw [← minC]; rfl
theorem maxD (a b : Int) : mxD true (I a) (I b) = some (I (max a b)) := by simp only [mxD, I]; congr 1; rw [← maxC]; rfl
theorem foldl_min_ge {f : Cr → Int} : ∀ (cs : List Cr) (m a : Int), m ≤ cs.foldl (fun m c => min m (f c)) a ↔ m ≤ a ∧ ∀ d ∈ cs, m ≤ f d
  | [], m, a => by simp
  | c :: cs, m, a => by
    rw [List.foldl_cons, foldl_min_ge cs]
    constructor
    · rintro ⟨h1, h2⟩
      refine ⟨by omega, fun d hd => ?_⟩
      rcases List.mem_cons.1 hd with rfl | hd
      · omega
      · exact h2 d hd
    · rintro ⟨h1, h2⟩
      exact ⟨by have := h2 c (by simp); omega, fun d hd => h2 d (by simp [hd])⟩
theorem foldl_max_le {f : Cr → Int} : ∀ (cs : List Cr) (m a : Int), cs.foldl (fun m c => max m (f c)) a ≤ m ↔ a ≤ m ∧ ∀ d ∈ cs, f d ≤ m
  | [], m, a => by simp
  | c :: cs, m, a => by
    rw [List.foldl_cons, foldl_max_le cs]
    constructor
    · rintro ⟨h1, h2⟩
      refine ⟨by omega, fun d hd => ?_⟩
      rcases List.mem_cons.1 hd with rfl | hd
      · omega
      · exact h2 d hd
    · rintro ⟨h1, h2⟩
      exact ⟨by have := h2 c (by simp); omega, fun d hd => h2 d (by simp [hd])⟩
theorem lo2_ge {f g : Cr → Int} {c : Cr} {cs : List Cr} {m : Int} : m ≤ lo2 f g c cs ↔ ∀ d ∈ c :: cs, m ≤ f d := by
  unfold lo2
  rw [foldl_min_ge]
  simp
theorem hi2_le {f g : Cr → Int} {c : Cr} {cs : List Cr} {m : Int} : hi2 f g c cs ≤ m ↔ ∀ d ∈ c :: cs, g d ≤ m := by
  unfold hi2
  rw [foldl_max_le]
  simp
theorem fX_ge {c : Cr} (hp : 0 < c.p) {m : Int} : m ≤ fX c ↔ m * c.p ≤ c.x := Int.le_ediv_iff_mul_le hp
theorem fY_ge {c : Cr} (hp : 0 < c.p) {m : Int} : m ≤ fY c ↔ m * c.p ≤ c.y := Int.le_ediv_iff_mul_le hp
theorem gX_le {c : Cr} (hp : 0 < c.p) {m : Int} : gX c ≤ m ↔ c.x ≤ m * c.p := by
  have h : -m ≤ -c.x / c.p ↔ -m * c.p ≤ -c.x := Int.le_ediv_iff_mul_le hp
  rw [Int.neg_mul] at h
  unfold gX
  omega
theorem gY_le {c : Cr} (hp : 0 < c.p) {m : Int} : gY c ≤ m ↔ c.y ≤ m * c.p := by
  have h : -m ≤ -c.y / c.p ↔ -m * c.p ≤ -c.y := Int.le_ediv_iff_mul_le hp
  rw [Int.neg_mul] at h
  unfold gY
  omega
/-- The bounds are near just if all corners are. -/
theorem bnd_near {x y f : Int} {c : Cr} {cs : List Cr} (hp : ∀ d ∈ c :: cs, 0 < d.p) :
    (x - f ≤ lo2 fX gX c cs ∧ hi2 fX gX c cs ≤ x + f ∧ y - f ≤ lo2 fY gY c cs ∧ hi2 fY gY c cs ≤ y + f) ↔ (c :: cs).all (fun d => (nr x y f).all d.isIn) = true := by
  rw [lo2_ge, hi2_le, lo2_ge, hi2_le, List.all_eq_true]
  constructor
  · rintro ⟨h1, h2, h3, h4⟩ d hd
    rw [nr_all]
    simp only [Bool.and_eq_true, decide_eq_true_eq]
    exact ⟨(gX_le (hp d hd)).1 (h2 d hd), (fX_ge (hp d hd)).1 (h1 d hd), (gY_le (hp d hd)).1 (h4 d hd), (fY_ge (hp d hd)).1 (h3 d hd)⟩
  · intro h
    have key : ∀ d ∈ c :: cs, d.x ≤ (x + f) * d.p ∧ (x - f) * d.p ≤ d.x ∧ d.y ≤ (y + f) * d.p ∧ (y - f) * d.p ≤ d.y := fun d hd => by
      have := h d hd
      rw [nr_all] at this
      simpa only [Bool.and_eq_true, decide_eq_true_eq] using this
    exact ⟨fun d hd => (fX_ge (hp d hd)).2 (key d hd).2.1, fun d hd => (gX_le (hp d hd)).2 (key d hd).1, fun d hd => (fY_ge (hp d hd)).2 (key d hd).2.2.2, fun d hd => (gY_le (hp d hd)).2 (key d hd).2.2.1⟩
theorem inA_append {c : Cr} {hs ks : List Hf} (h1 : c.inA hs) (h2 : ks.all c.isIn = true) : c.inA (hs ++ ks) := by
  refine ⟨h1.1, fun h hm => ?_⟩
  rcases List.mem_append.1 hm with hm | hm
  · exact h1.2 h hm
  · have := List.all_eq_true.1 h2 h hm
    simpa [Cr.isIn] using this
/-- Near for sure: all corners are. -/
theorem kn_two {hs ks : List Hf} (hS : Sided hs) (hpl : hasPl hs = true) : kn hs ks = 2 ↔ (crnR hs hs.length).all (fun c => ks.all c.isIn) = true := by
  unfold kn
  constructor
  · intro h
    split at h
    · cases h
    · split at h
      · assumption
      · cases h
  · intro h
    have : hasPl (hs ++ ks) = true := by
      cases e : crnR hs hs.length with
      | nil => rw [crn_nil.1 e] at hpl; cases hpl
      | cons c cs =>
        have hc : c ∈ crnR hs hs.length := by rw [e]; simp
        have hS' : Sided (hs ++ ks) := hS.mono fun x hx => by simp [hx]
        exact (hasPl_sided hS').2 ⟨c, inA_append (crn_inA hc) (List.all_eq_true.1 h c hc)⟩
    rw [this, h]
    simp
theorem kn_zero {hs ks : List Hf} : kn hs ks = 0 ↔ hasPl (hs ++ ks) = false := by
  unfold kn
  split
  · simp [*]
  · rename_i h
    simp only [h, iff_false]
    split <;> simp
/-- All places are in the bounds. -/
theorem in_bounds {hs : List Hf} (hS : Sided hs) {c : Cr} {cs : List Cr} (hcs : crnR hs hs.length = c :: cs) {q : Cr} (hq : q.inA hs) :
    lo2 fX gX c cs * q.p ≤ q.x ∧ q.x ≤ hi2 fX gX c cs * q.p ∧ lo2 fY gY c cs * q.p ≤ q.y ∧ q.y ≤ hi2 fY gY c cs * q.p := by
  have hp : ∀ d ∈ c :: cs, 0 < d.p := fun d hd => (crn_inA (hcs ▸ hd)).1
  have up : ∀ (m w v : Int) (d : Cr), 0 < d.p → v * d.p ≤ w * q.p → w ≤ m * d.p → v ≤ m * q.p := by
    intro m w v d hd h1 h2
    refine Int.le_of_mul_le_mul_right (a := d.p) ?_ hd
    have := Int.mul_le_mul_of_nonneg_right h2 (Int.le_of_lt hq.1)
    have e : m * d.p * q.p = m * q.p * d.p := by rw [Int.mul_assoc, Int.mul_comm d.p, ← Int.mul_assoc]
    omega
  refine ⟨?_, ?_, ?_, ?_⟩
  · obtain ⟨d, hd, hf⟩ := top hq hS (u := -1) (v := 0) (by omega)
    rw [hcs] at hd
    have h1 := (lo2_ge (f := fX) (g := gX) (c := c) (cs := cs)).1 (Int.le_refl _) d hd
    rw [fX_ge (hp d hd)] at h1
    unfold Cr.far at hf
    have := up (-lo2 fX gX c cs) (-d.x) (-q.x) d (hp d hd) (by simpa using hf) (by rw [Int.neg_mul]; omega)
    rw [Int.neg_mul] at this
    omega
  · obtain ⟨d, hd, hf⟩ := top hq hS (u := 1) (v := 0) (by omega)
    rw [hcs] at hd
    have h1 := (hi2_le (f := fX) (g := gX) (c := c) (cs := cs)).1 (Int.le_refl _) d hd
    rw [gX_le (hp d hd)] at h1
    unfold Cr.far at hf
    exact up _ d.x q.x d (hp d hd) (by simpa using hf) h1
  · obtain ⟨d, hd, hf⟩ := top hq hS (u := 0) (v := -1) (by omega)
    rw [hcs] at hd
    have h1 := (lo2_ge (f := fY) (g := gY) (c := c) (cs := cs)).1 (Int.le_refl _) d hd
    rw [fY_ge (hp d hd)] at h1
    unfold Cr.far at hf
    have := up (-lo2 fY gY c cs) (-d.y) (-q.y) d (hp d hd) (by simpa using hf) (by rw [Int.neg_mul]; omega)
    rw [Int.neg_mul] at this
    omega
  · obtain ⟨d, hd, hf⟩ := top hq hS (u := 0) (v := 1) (by omega)
    rw [hcs] at hd
    have h1 := (hi2_le (f := fY) (g := gY) (c := c) (cs := cs)).1 (Int.le_refl _) d hd
    rw [gY_le (hp d hd)] at h1
    unfold Cr.far at hf
    exact up _ d.y q.y d (hp d hd) (by simpa using hf) h1
end Go.Q.G
