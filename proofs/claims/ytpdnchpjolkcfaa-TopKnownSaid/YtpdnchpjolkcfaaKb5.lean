/- Guide: bounds hold; areas that grow. -/
import Derived.Test.YtpdnchpjolkcfaaKb4
set_option linter.unusedVariables false
set_option linter.unusedSimpArgs false
set_option maxRecDepth 100000
namespace Go.Q
open Go.V
/-- All places are in the bounds. -/
theorem in_bounds {hs : List Hf} (hS : Sided hs) {c : Cr} {cs : List Cr} (hcs : crnR hs hs.length = c :: cs) {q : Cr} (hq : q.inA hs) :
    lo2 fX gX c cs * q.p ≤ q.x ∧ q.x ≤ hi2 fX gX c cs * q.p ∧ lo2 fY gY c cs * q.p ≤ q.y ∧ q.y ≤ hi2 fY gY c cs * q.p := by
  have hp : ∀ d ∈ c :: cs, 0 < d.p := fun d hd => (crn_inA (hcs ▸ hd)).1
  have up : ∀ (m w v : Int) (d : Cr), 0 < d.p → v * d.p ≤ w * q.p → w ≤ m * d.p → v ≤ m * q.p := by
    intro m w v d hd h1 h2
    refine Int.le_of_mul_le_mul_right (a := d.p) ?_ hd
    have := Int.mul_le_mul_of_nonneg_right h2 (Int.le_of_lt hq.1)
    have e : m * d.p * q.p = m * q.p * d.p := by rw [Int.mul_assoc, Int.mul_comm d.p, ← Int.mul_assoc]
    omega
  refine ⟨?_, ?_, ?_, ?_⟩
  · obtain ⟨d, hd, hf⟩ := top hq hS (u := -1) (v := 0) (by omega)
    rw [hcs] at hd
    have h1 := (lo2_ge (f := fX) (g := gX) (c := c) (cs := cs)).1 (Int.le_refl _) d hd
    rw [fX_ge (hp d hd)] at h1
    unfold Cr.far at hf
    have := up (-lo2 fX gX c cs) (-d.x) (-q.x) d (hp d hd) (by simpa using hf) (by rw [Int.neg_mul]; omega)
    rw [Int.neg_mul] at this
    omega
  · obtain ⟨d, hd, hf⟩ := top hq hS (u := 1) (v := 0) (by omega)
    rw [hcs] at hd
    have h1 := (hi2_le (f := fX) (g := gX) (c := c) (cs := cs)).1 (Int.le_refl _) d hd
    rw [gX_le (hp d hd)] at h1
    unfold Cr.far at hf
    exact up _ d.x q.x d (hp d hd) (by simpa using hf) h1
  · obtain ⟨d, hd, hf⟩ := top hq hS (u := 0) (v := -1) (by omega)
    rw [hcs] at hd
    have h1 := (lo2_ge (f := fY) (g := gY) (c := c) (cs := cs)).1 (Int.le_refl _) d hd
    rw [fY_ge (hp d hd)] at h1
    unfold Cr.far at hf
    have := up (-lo2 fY gY c cs) (-d.y) (-q.y) d (hp d hd) (by simpa using hf) (by rw [Int.neg_mul]; omega)
    rw [Int.neg_mul] at this
    omega
  · obtain ⟨d, hd, hf⟩ := top hq hS (u := 0) (v := 1) (by omega)
    rw [hcs] at hd
    have h1 := (hi2_le (f := fY) (g := gY) (c := c) (cs := cs)).1 (Int.le_refl _) d hd
    rw [gY_le (hp d hd)] at h1
    unfold Cr.far at hf
    exact up _ d.y q.y d (hp d hd) (by simpa using hf) h1
/-- The bounds of an area that has a place. -/
structure Bd where
  a : Int
  b : Int
  c : Int
  d : Int
def bdS (hs : List Hf) : Bd := match crnR hs hs.length with
  | [] => ⟨0, 0, 0, 0⟩
  | c :: cs => ⟨lo2 fX gX c cs, hi2 fX gX c cs, lo2 fY gY c cs, hi2 fY gY c cs⟩
theorem bndS_ok {hs : List Hf} (ho : okA hs = true) (hp : hasPl hs = true) : bndS hs = (((bdS hs).a, (bdS hs).b), ((bdS hs).c, (bdS hs).d), 0) := by
  unfold bndS bdS
  rw [ho]
  cases e : crnR hs hs.length with
  | nil => rw [crn_nil.1 e] at hp; cases hp
  | cons c cs => rfl
theorem bndS_none {hs : List Hf} (ho : okA hs = true) (hp : hasPl hs = false) : bndS hs = ((0, 0), (0, 0), 43) := by
  simp [bndS, ho, crn_nil.2 hp]
theorem hasPl_sub {hs ks : List Hf} (hS : Sided hs) (h : ∀ x ∈ hs, x ∈ ks) (hp : hasPl ks = true) : hasPl hs = true := by
  obtain ⟨c, hc⟩ := hasPl_place hp
  exact (hasPl_sided hS).2 ⟨c, hc.1, fun x hx => hc.2 x (h x hx)⟩
theorem bd_inner {hs ks : List Hf} (hS : Sided hs) (hin : ∀ h ∈ hs, h.In) (h : ∀ x ∈ hs, x ∈ ks) (hp : hasPl ks = true) : (bdS hs).a ≤ (bdS ks).a ∧ (bdS ks).b ≤ (bdS hs).b ∧ (bdS hs).c ≤ (bdS ks).c ∧ (bdS ks).d ≤ (bdS hs).d := by
  have hp2 := hasPl_sub hS h hp
  unfold bdS
  cases e : crnR hs hs.length with
  | nil => rw [crn_nil.1 e] at hp2; cases hp2
  | cons c cs =>
    cases e2 : crnR ks ks.length with
    | nil => rw [crn_nil.1 e2] at hp; cases hp
    | cons c' cs' =>
      have key : ∀ d ∈ c' :: cs', 0 < d.p ∧ _ := fun d hd => ⟨(crn_inA (e2 ▸ hd)).1, in_bounds hS e (q := d) ⟨(crn_inA (e2 ▸ hd)).1, fun x hx => (crn_inA (e2 ▸ hd)).2 x (h x hx)⟩⟩
      simp only
      rw [lo2_ge, hi2_le, lo2_ge, hi2_le]
      exact ⟨fun d hd => (fX_ge (key d hd).1).2 (key d hd).2.1, fun d hd => (gX_le (key d hd).1).2 (key d hd).2.2.1, fun d hd => (fY_ge (key d hd).1).2 (key d hd).2.2.2.1, fun d hd => (gY_le (key d hd).1).2 (key d hd).2.2.2.2⟩
theorem bd_same {hs ks : List Hf} (hS : Sided hs) (hin : ∀ h ∈ hs, h.In) (hin' : ∀ h ∈ ks, h.In) (h : ∀ x ∈ hs, x ∈ ks) (h' : ∀ x ∈ ks, x ∈ hs) (hp : hasPl ks = true) : bdS hs = bdS ks := by
  have h1 := bd_inner hS hin h hp
  have h2 := bd_inner (hS.mono h) hin' h' (hasPl_sub hS h hp)
  generalize bdS hs = b1 at *
  generalize bdS ks = b2 at *
  obtain ⟨a1, a2, a3, a4⟩ := b1
  obtain ⟨c1, c2, c3, c4⟩ := b2
  simp only at h1 h2
  congr 1 <;> omega
theorem pl_same {hs ks : List Hf} (hS : Sided hs) (h : ∀ x ∈ hs, x ∈ ks) (h' : ∀ x ∈ ks, x ∈ hs) : hasPl hs = hasPl ks := by
  rw [Bool.eq_iff_iff]
  exact ⟨fun hp => hasPl_sub (hS.mono h) h' hp, fun hp => hasPl_sub hS h hp⟩
theorem okA_append {hs ks : List Hf} (ho : okA hs = true) (hl : hs.length + ks.length ≤ 40) (hk : ks.all Hf.ok = true) : okA (hs ++ ks) = true := by
  simp only [okA, Bool.and_eq_true, decide_eq_true_eq] at ho ⊢
  obtain ⟨⟨⟨h1, h2⟩, h3⟩, h4⟩ := ho
  refine ⟨⟨⟨by rw [List.length_append]; omega, by rw [List.length_append]; omega⟩, by rw [List.all_append, h3, hk]; rfl⟩, ?_⟩
  match hs, h1 with
  | a0 :: a1 :: a2 :: a3 :: l, _ => simpa [sides] using h4
  | [], h => simp at h
  | [_], h => simp at h
  | [_, _], h => simp at h
  | [_, _, _], h => simp at h
theorem Lk.hv_ok {l : Lk} (h : l.ok = true) : l.hv.all Hf.ok = true := by
  rw [List.all_eq_true]
  intro k hk
  have hi := l.hvIn h k hk
  have ha := hi.a
  have hb := hi.b
  have hc := hi.c
  have hne : k.a ≠ 0 ∨ k.b ≠ 0 := by
    unfold Lk.hv at hk
    rcases l.okC h with ⟨e, h1, h2, h3, h4⟩ | ⟨e, h1⟩ | ⟨e, h1⟩
    · rw [if_pos e] at hk
      simp only [List.mem_cons, List.not_mem_nil, or_false] at hk
      rcases hk with rfl | rfl
      · simp only
        rcases Classical.em (l.fx = 0 ∧ l.fy = 0) with hz | hz
        · rw [hz.1, hz.2] at h4; simp at h4
        · omega
      · simp only
        rcases Classical.em (l.tx = 0 ∧ l.ty = 0) with hz | hz
        · rw [hz.1, hz.2] at h4; simp at h4
        · omega
    · rw [if_neg (by omega), if_pos e] at hk
      simp only [List.mem_cons, List.not_mem_nil, or_false] at hk
      rcases hk with rfl | rfl <;> simp
    · rw [if_neg (by omega), if_neg (by omega)] at hk
      simp only [nr, sides, List.mem_cons, List.not_mem_nil, or_false] at hk
      rcases hk with rfl | rfl | rfl | rfl <;> simp
  simp only [Hf.ok, inR, Bool.and_eq_true, decide_eq_true_eq, Bool.or_eq_true, bne_iff_ne]
  omega
end Go.Q
