/- Guide: bounds are as narrow as whole numbers can be. -/
import Derived.Test.YtcgeghpmnnhcpaaGg2
set_option linter.unusedVariables false
set_option linter.unusedSimpArgs false
namespace Go.Q
open Go.V
theorem foldl_max_at {f : Cr → Int} : ∀ (cs : List Cr) (a : Int), cs.foldl (fun m c => max m (f c)) a = a ∨ ∃ d ∈ cs, cs.foldl (fun m c => max m (f c)) a = f d
  | [], a => .inl rfl
  | c :: cs, a => by
    rw [List.foldl_cons]
    rcases foldl_max_at (f := f) cs (max a (f c)) with h | ⟨d, hd, h⟩
    · rw [h]
      rcases Int.le_total a (f c) with h2 | h2
      · exact .inr ⟨c, by simp, by omega⟩
      · exact .inl (by omega)
    · exact .inr ⟨d, by simp [hd], h⟩
theorem foldl_min_at {f : Cr → Int} : ∀ (cs : List Cr) (a : Int), cs.foldl (fun m c => min m (f c)) a = a ∨ ∃ d ∈ cs, cs.foldl (fun m c => min m (f c)) a = f d
  | [], a => .inl rfl
  | c :: cs, a => by
    rw [List.foldl_cons]
    rcases foldl_min_at (f := f) cs (min a (f c)) with h | ⟨d, hd, h⟩
    · rw [h]
      rcases Int.le_total a (f c) with h2 | h2
      · exact .inl (by omega)
      · exact .inr ⟨c, by simp, by omega⟩
    · exact .inr ⟨d, by simp [hd], h⟩
theorem hi2_at {f g : Cr → Int} {c : Cr} {cs : List Cr} : ∃ d ∈ c :: cs, hi2 f g c cs = g d := by
  rcases foldl_max_at (f := g) cs (g c) with h | ⟨d, hd, h⟩
  · exact ⟨c, by simp, h⟩
  · exact ⟨d, by simp [hd], h⟩
theorem lo2_at {f g : Cr → Int} {c : Cr} {cs : List Cr} : ∃ d ∈ c :: cs, lo2 f g c cs = f d := by
  rcases foldl_min_at (f := f) cs (f c) with h | ⟨d, hd, h⟩
  · exact ⟨c, by simp, h⟩
  · exact ⟨d, by simp [hd], h⟩
theorem lo2_le_hi2 {f g : Cr → Int} {c : Cr} {cs : List Cr} (h : f c ≤ g c) : lo2 f g c cs ≤ hi2 f g c cs := by
  have h1 := (lo2_ge (f := f) (g := g) (c := c) (cs := cs)).1 (Int.le_refl _) c (by simp)
  have h2 := (hi2_le (f := f) (g := g) (c := c) (cs := cs)).1 (Int.le_refl _) c (by simp)
  omega
/-- With one half more there is a place just if a corner is in it, where it looks to a side. -/
theorem one_more {hs : List Hf} (hS : Sided hs) {h : Hf} (hab : h.a ≠ 0 ∨ h.b ≠ 0) : hasPl (hs ++ [h]) = true ↔ ∃ c ∈ crnR hs hs.length, h.a * c.x + h.b * c.y ≤ h.c * c.p := by
  have hS' : Sided (hs ++ [h]) := hS.mono fun x hx => by simp [hx]
  rw [hasPl_sided hS']
  constructor
  · rintro ⟨q, hq⟩
    have hq1 : q.inA hs := ⟨hq.1, fun k hk => hq.2 k (by simp [hk])⟩
    have hq2 := hq.2 h (by simp)
    obtain ⟨c, hc, hf⟩ := top hq1 hS (u := -h.a) (v := -h.b) (by omega)
    refine ⟨c, hc, ?_⟩
    have hcp := (crn_inA hc).1
    unfold Cr.far at hf
    have e1 : (-h.a * q.x + -h.b * q.y) * c.p = -((h.a * q.x + h.b * q.y) * c.p) := by rw [← Int.neg_mul]; congr 1; rw [Int.neg_mul, Int.neg_mul]; omega
    have e2 : (-h.a * c.x + -h.b * c.y) * q.p = -((h.a * c.x + h.b * c.y) * q.p) := by rw [← Int.neg_mul]; congr 1; rw [Int.neg_mul, Int.neg_mul]; omega
    have m := Int.mul_le_mul_of_nonneg_right hq2 (Int.le_of_lt hcp)
    have e3 : h.c * q.p * c.p = h.c * c.p * q.p := by rw [Int.mul_assoc, Int.mul_comm q.p, ← Int.mul_assoc]
    refine Int.le_of_mul_le_mul_right (a := q.p) ?_ hq.1
    omega
  · rintro ⟨c, hc, hl⟩
    have := crn_inA hc
    refine ⟨c, this.1, fun k hk => ?_⟩
    rcases List.mem_append.1 hk with hk | hk
    · exact this.2 k hk
    · simp only [List.mem_singleton] at hk
      subst hk; exact hl
theorem bnd_ok {hs : List Hf} {h : Hf} (ho : okA hs = true) (hl : hs.length ≠ 40) (hh : h.ok = true) : okA (hs ++ [h]) = true := by
  have hlen := (okA_in ho).2
  simp only [okA, Bool.and_eq_true, decide_eq_true_eq] at ho ⊢
  obtain ⟨⟨⟨h1, h2⟩, h3⟩, h4⟩ := ho
  refine ⟨⟨⟨by simp; omega, by simp; omega⟩, by rw [List.all_append, h3]; simp [hh]⟩, ?_⟩
  match hs, h1 with
  | a0 :: a1 :: a2 :: a3 :: l, _ => simpa [sides] using h4
  | [], h => simp at h
  | [_], h => simp at h
  | [_, _], h => simp at h
  | [_, _, _], h => simp at h
/-- The eight halves that are tried. -/
def eight (a b c d : Int) : List (Hf × Bool) :=
  [(⟨-1, 0, -(b - 1)⟩, true), (⟨-1, 0, -(b + 1)⟩, false), (⟨1, 0, a + 1⟩, true), (⟨1, 0, a - 1⟩, false), (⟨0, -1, -(d - 1)⟩, true), (⟨0, -1, -(d + 1)⟩, false), (⟨0, 1, c + 1⟩, true), (⟨0, 1, c - 1⟩, false)]
theorem eight_ok {hs : List Hf} (hin : ∀ h ∈ hs, h.In) (hS : Sided hs) {c : Cr} {cs : List Cr} (hcs : crnR hs hs.length = c :: cs) {q : Hf × Bool} (hq : q ∈ eight (lo2 fX gX c cs) (hi2 fX gX c cs) (lo2 fY gY c cs) (hi2 fY gY c cs)) :
    (q.1.a ≠ 0 ∨ q.1.b ≠ 0) ∧ hasPl (hs ++ [q.1]) = q.2 := by
  have hp : ∀ d ∈ c :: cs, 0 < d.p := fun d hd => (crn_in hin (by rw [hcs]; exact hd)).2
  have up : ∀ {f g : Cr → Int} {w : Cr → Int} (h : Hf) (hw : ∀ d, h.a * d.x + h.b * d.y = - w d) (hab : h.a ≠ 0 ∨ h.b ≠ 0) (hg : ∀ d, 0 < d.p → ∀ m, g d ≤ m ↔ w d ≤ m * d.p),
      (h.c = -(hi2 f g c cs - 1) → hasPl (hs ++ [h]) = true) ∧ (h.c = -(hi2 f g c cs + 1) → hasPl (hs ++ [h]) = false) := by
    intro f g w h hw hab hg
    constructor
    · intro e
      rw [one_more hS hab, hcs]
      obtain ⟨d, hd, hm⟩ := hi2_at (f := f) (g := g) (c := c) (cs := cs)
      refine ⟨d, hd, ?_⟩
      rw [hw, e]
      have h1 : ¬ g d ≤ hi2 f g c cs - 1 := by omega
      rw [hg d (hp d hd)] at h1
      rw [Int.neg_mul]
      omega
    · intro e
      rw [← Bool.not_eq_true, one_more hS hab, hcs]
      rintro ⟨d, hd, hm⟩
      rw [hw, e, Int.neg_mul] at hm
      have h1 := (hi2_le (f := f) (g := g) (c := c) (cs := cs)).1 (Int.le_refl _) d hd
      rw [hg d (hp d hd)] at h1
      have h2 := hp d hd
      rw [Int.add_mul] at hm
      omega
  have dn : ∀ {f g : Cr → Int} {w : Cr → Int} (h : Hf) (hw : ∀ d, h.a * d.x + h.b * d.y = w d) (hab : h.a ≠ 0 ∨ h.b ≠ 0) (hf : ∀ d, 0 < d.p → ∀ m, m ≤ f d ↔ m * d.p ≤ w d),
      (h.c = lo2 f g c cs + 1 → hasPl (hs ++ [h]) = true) ∧ (h.c = lo2 f g c cs - 1 → hasPl (hs ++ [h]) = false) := by
    intro f g w h hw hab hf
    constructor
    · intro e
      rw [one_more hS hab, hcs]
      obtain ⟨d, hd, hm⟩ := lo2_at (f := f) (g := g) (c := c) (cs := cs)
      refine ⟨d, hd, ?_⟩
      rw [hw, e]
      have h1 : ¬ lo2 f g c cs + 1 ≤ f d := by omega
      rw [hf d (hp d hd)] at h1
      omega
    · intro e
      rw [← Bool.not_eq_true, one_more hS hab, hcs]
      rintro ⟨d, hd, hm⟩
      rw [hw, e] at hm
      have h1 := (lo2_ge (f := f) (g := g) (c := c) (cs := cs)).1 (Int.le_refl _) d hd
      rw [hf d (hp d hd)] at h1
      have h2 := hp d hd
      rw [Int.sub_mul] at hm
      omega
  simp only [eight, List.mem_cons, List.not_mem_nil, or_false] at hq
  rcases hq with rfl | rfl | rfl | rfl | rfl | rfl | rfl | rfl
  · exact ⟨by simp, (up (f := fX) (g := gX) (w := Cr.x) _ (fun d => by simp) (by simp) (fun d hd m => gX_le hd)).1 rfl⟩
  · exact ⟨by simp, (up (f := fX) (g := gX) (w := Cr.x) _ (fun d => by simp) (by simp) (fun d hd m => gX_le hd)).2 rfl⟩
  · exact ⟨by simp, (dn (f := fX) (g := gX) (w := Cr.x) _ (fun d => by simp) (by simp) (fun d hd m => fX_ge hd)).1 rfl⟩
  · exact ⟨by simp, (dn (f := fX) (g := gX) (w := Cr.x) _ (fun d => by simp) (by simp) (fun d hd m => fX_ge hd)).2 rfl⟩
  · exact ⟨by simp, (up (f := fY) (g := gY) (w := Cr.y) _ (fun d => by simp) (by simp) (fun d hd m => gY_le hd)).1 rfl⟩
  · exact ⟨by simp, (up (f := fY) (g := gY) (w := Cr.y) _ (fun d => by simp) (by simp) (fun d hd m => gY_le hd)).2 rfl⟩
  · exact ⟨by simp, (dn (f := fY) (g := gY) (w := Cr.y) _ (fun d => by simp) (by simp) (fun d hd m => fY_ge hd)).1 rfl⟩
  · exact ⟨by simp, (dn (f := fY) (g := gY) (w := Cr.y) _ (fun d => by simp) (by simp) (fun d hd m => fY_ge hd)).2 rfl⟩
end Go.Q
