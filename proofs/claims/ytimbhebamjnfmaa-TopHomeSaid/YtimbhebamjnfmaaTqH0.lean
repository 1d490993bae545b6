/- TopHome: what is so, by plain facts. -/
import Derived.Test.YtimbhebamjnfmaaTqT
import Derived.Test.YtimbhebamjnfmaaPa6
set_option linter.unusedVariables false
set_option linter.unusedSimpArgs false
set_option maxRecDepth 100000
namespace Go.Q
open Go.V
/-! Treks of a day each -/
def one1 (t : G.Tk) : G.Tk := { t with d := 1, d' := 1 }
def ones (ts : List G.Tk) : Nat → List G.Tk
  | 0 => ts
  | i + 1 => match ts[i]? with
    | some t => (ones ts i).set i (one1 t)
    | none => ones ts i
theorem ones_len {ts : List G.Tk} : ∀ n, (ones ts n).length = ts.length
  | 0 => rfl
  | n + 1 => by
    simp only [ones]
    split
    · rw [List.length_set, ones_len n]
    · exact ones_len n
theorem ones_get {ts : List G.Tk} {j : Nat} (hj : j < ts.length) : ∀ n, (ones ts n)[j]? = some (if j < n then one1 ts[j] else ts[j])
  | 0 => by simp [ones, hj]
  | n + 1 => by
    have ih := ones_get hj n
    simp only [ones]
    split
    · rename_i l e
      obtain ⟨hn, rfl⟩ := List.getElem?_eq_some_iff.1 e
      rw [List.getElem?_set, ones_len n]
      by_cases h : n = j
      · subst h; simp [hj]
      · rw [if_neg h, ih]
        by_cases h2 : j < n
        · rw [if_pos h2, if_pos (by omega)]
        · rw [if_neg h2, if_neg (by omega)]
    · rename_i e
      have : ts.length ≤ n := by simpa using e
      rw [ih, if_pos (by omega), if_pos (by omega)]
theorem ones_all {ts : List G.Tk} : ones ts ts.length = ts.map one1 := by
  apply List.ext_getElem?
  intro j
  by_cases hj : j < ts.length
  · rw [ones_get hj, if_pos hj]; simp [hj]
  · rw [List.getElem?_eq_none (by rw [ones_len]; omega), List.getElem?_eq_none (by simp; omega)]
/-! Areas that are moved -/
def mvs (hs : List G.Hf) (ts : List G.Tk) : List G.Hf := ts.foldl (fun h t => h.map (G.Hf.mv t)) hs
theorem fgo_keep {x y f : Int} : ∀ (ts : List G.Tk) (i : Nat) (s s' : G.Fs), G.fGo x y f i s ts = .ok s' → 0 ≤ s.sure → s'.sure = s.sure
  | [], i, s, s', h, hb => by cases h; rfl
  | t :: ts, i, s, s', h, hb => by
    simp only [G.fGo, G.foldI] at h
    cases e : G.fStep x y f i s t with
    | error u => rw [e] at h; cases h
    | ok s1 =>
      rw [e] at h
      have hs1 : s1.sure = s.sure := by
        unfold G.fStep at e
        split at e
        · cases e
        · cases e
          simp only
          rw [if_neg (by omega)]
      rw [fgo_keep ts (i + 1) s1 s' h (by omega), hs1]
/-- Where it is near for sure, the place is, and the areas up to there are areas. -/
theorem fgo_sure {x y f : Int} : ∀ (ts : List G.Tk) (i : Nat) (s s' : G.Fs), G.fGo x y f i s ts = .ok s' → G.okA s.hs = true → (s.sure < 0 → 0 ≤ s'.sure → ∃ j, j ≤ ts.length ∧ s'.sure = i + j ∧ G.kn (mvs s.hs (ts.take j)) (G.nr x y f) = 2) ∧ ∀ j, j ≤ ts.length → G.okA (mvs s.hs (ts.take j)) = true
  | [], i, s, s', h, ho => by
    cases h
    refine ⟨fun h1 h2 => by omega, fun j hj => ?_⟩
    simpa [mvs] using ho
  | t :: ts, i, s, s', h, ho => by
    simp only [G.fGo, G.foldI] at h
    cases e : G.fStep x y f i s t with
    | error u => rw [e] at h; cases h
    | ok s1 =>
      rw [e] at h
      have hq : s1.hs = s.hs.map (G.Hf.mv t) ∧ s1.hs.all G.Hf.ok = true ∧ s1.sure = if s.sure < 0 ∧ G.kn (s.hs.map (G.Hf.mv t)) (G.nr x y f) = 2 then ((i : Int) + 1) else s.sure := by
        unfold G.fStep at e
        split at e
        · cases e
        · rename_i hne
          cases e
          exact ⟨rfl, by simpa using hne, rfl⟩
      obtain ⟨h1, h2, h3⟩ := hq
      have ho1 : G.okA s1.hs = true := by rw [h1, G.mv_okA ho, ← h1]; exact h2
      obtain ⟨g1, g2⟩ := fgo_sure ts (i + 1) s1 s' h ho1
      have hm : ∀ l, mvs s.hs (t :: l) = mvs s1.hs l := fun l => by rw [h1]; rfl
      refine ⟨fun k1 k2 => ?_, fun j hj => ?_⟩
      · by_cases hk : G.kn (s.hs.map (G.Hf.mv t)) (G.nr x y f) = 2
        · rw [if_pos ⟨k1, hk⟩] at h3
          have := fgo_keep ts (i + 1) s1 s' h (by omega)
          refine ⟨1, by simp, by omega, ?_⟩
          simpa [mvs] using hk
        · rw [if_neg (fun h => hk h.2)] at h3
          obtain ⟨j, q1, q2, q3⟩ := g1 (by omega) k2
          refine ⟨j + 1, by simp; omega, by omega, ?_⟩
          rw [List.take_succ_cons, hm]; exact q3
      · cases j with
        | zero => simpa [mvs] using ho
        | succ j =>
          rw [List.take_succ_cons, hm]
          exact g2 j (by simpa using hj)
theorem finds_sure {hs : List G.Hf} {ts : List G.Tk} {x y f : Int} {r0 r1 : Int} (h : G.findsS hs ts x y f = (r0, r1, 0)) (h1 : 0 ≤ r1) :
    G.okA hs = true ∧ G.askOK x y f = true ∧ ∃ k : Nat, r1 = k ∧ k ≤ ts.length ∧ G.kn (mvs hs (ts.take k)) (G.nr x y f) = 2 ∧ G.okA (mvs hs (ts.take k)) = true ∧ ∀ t ∈ ts, t.ok = true := by
  unfold G.findsS at h
  split at h
  · rename_i hn
    simp only [Prod.mk.injEq] at h
    exact absurd h.2.2 hn
  · rename_i hn
    obtain ⟨a1, a2, a3, a4⟩ := G.nearS_ok (Decidable.not_not.1 hn)
    refine ⟨a1, a2, ?_⟩
    split at h
    · simp at h
    split at h
    · simp at h
    rename_i hall
    have hto : ∀ t ∈ ts, t.ok = true := by simpa using hall
    split at h
    · rename_i s e
      simp only [Prod.mk.injEq] at h
      obtain ⟨-, rfl, -⟩ := h
      obtain ⟨g1, g2⟩ := fgo_sure ts 0 _ _ e (by exact a1)
      by_cases hk : G.kn hs (G.nr x y f) = 2
      · have := fgo_keep ts 0 _ _ e (by simp [G.f0, hk])
        refine ⟨0, by rw [this]; simp [G.f0, hk], by omega, by simpa [mvs] using hk, by simpa [mvs] using a1, hto⟩
      · obtain ⟨j, q1, q2, q3⟩ := g1 (by simp [G.f0, hk]) h1
        exact ⟨j, by omega, q1, q3, g2 j q1, hto⟩
    · simp at h
/-! A day of an animal in truth -/
structure DayT (b : Br) (m : Mr) (c : Cm) (W F W1 F1 W2 F2 : Int) : Prop where
  w1 : 0 ≤ W1
  f1 : 0 ≤ F1
  wl : 100000 * (eve b m c).x0 ≤ W2
  wh : W2 ≤ 100000 * (eve b m c).x1
  fl : 100000 * (eve b m c).x2 ≤ F2
  fh : F2 ≤ 100000 * (eve b m c).x3
theorem tdiv5 {x : Int} (h : 0 ≤ x) : 100000 * x.tdiv 100000 ≤ x ∧ x ≤ 100000 * (x + 100000 - 1).tdiv 100000 := by
  rw [Int.tdiv_eq_ediv_of_nonneg h, Int.tdiv_eq_ediv_of_nonneg (by omega)]
  omega
theorem day_true {b : Br} {m : Mr} {c : Cm} (hB : BrOK b) (hM : MrOK m) (hC : CmOK b c) (hw : weak b m c = false) {r ht tp tl mi bu dr gr W F : Int}
    (h1 : b.c2 ≤ r ∧ r ≤ b.c3) (h2 : b.c4 ≤ ht ∧ ht ≤ b.c5) (h3 : m.t0 ≤ tp ∧ tp ≤ m.t1) (h4 : b.c6 ≤ tl ∧ tl ≤ b.c7) (h5 : b.c12 ≤ mi ∧ mi ≤ b.c13) (h6 : b.c8 ≤ bu ∧ bu ≤ b.c9) (h7 : m.q0 ≤ dr ∧ dr ≤ m.q1) (h8 : m.e0 ≤ gr ∧ gr ≤ m.e1)
    (hW : 100000 * c.x0 ≤ W ∧ W ≤ 100000 * c.x1) (hF : 100000 * c.x2 ≤ F ∧ F ≤ 100000 * c.x3) :
    DayT b m c W F (W - (100000 * (r + ht * max 0 (tp - 20)) + tl * wrk m) - (if c.x6 then 100000 * mi else 0)) (F - bu * wrk m)
      (min (100000 * b.c0) (W - (100000 * (r + ht * max 0 (tp - 20)) + tl * wrk m) - (if c.x6 then 100000 * mi else 0) + 100000 * dr)) (min (100000 * b.c1) (F - bu * wrk m + 100000 * gr)) := by
  obtain ⟨w1, w2, w3, w4⟩ := wrk_bd hM
  have hba := hB.a; have hbb := hB.b; have hbc := hB.c; have hbd := hB.d; have hbf := hB.f; have hq := hM.q; have he := hM.e; have ht' := hM.t
  have hCa := hC.a; have hCb := hC.b
  have u : hot m.t0 ≤ max 0 (tp - 20) ∧ max 0 (tp - 20) ≤ hot m.t1 ∧ 0 ≤ hot m.t0 := by unfold hot; omega
  have p1 : b.c4 * hot m.t0 ≤ ht * max 0 (tp - 20) := Int.mul_le_mul (by omega) u.1 u.2.2 (by omega)
  have p2 : ht * max 0 (tp - 20) ≤ b.c5 * hot m.t1 := Int.mul_le_mul (by omega) u.2.1 (by omega) (by omega)
  have p3 : b.c6 * wrk m ≤ tl * wrk m := Int.mul_le_mul_of_nonneg_right h4.1 w1
  have p4 : tl * wrk m ≤ b.c7 * wrk m := Int.mul_le_mul_of_nonneg_right h4.2 w1
  have p5 : b.c8 * wrk m ≤ bu * wrk m := Int.mul_le_mul_of_nonneg_right h6.1 w1
  have p6 : bu * wrk m ≤ b.c9 * wrk m := Int.mul_le_mul_of_nonneg_right h6.2 w1
  have q1 := (tdiv5 (Int.mul_nonneg (show 0 ≤ b.c6 by omega) w1)).1
  have q2 := (tdiv5 (Int.mul_nonneg (show 0 ≤ b.c7 by omega) w1)).2
  have q3 := (tdiv5 (Int.mul_nonneg (show 0 ≤ b.c8 by omega) w1)).1
  have q4 := (tdiv5 (Int.mul_nonneg (show 0 ≤ b.c9 by omega) w1)).2
  unfold weak at hw
  obtain ⟨hw1, hw2⟩ := Bool.or_eq_false_iff.1 hw
  have hw1 : ¬ c.x0 < A1 b m c.x6 := of_decide_eq_false hw1
  have hw2 : ¬ c.x2 < A3 b m := of_decide_eq_false hw2
  have A0e : A0 b m c.x6 = b.c2 + b.c4 * hot m.t0 + (b.c6 * wrk m).tdiv 100000 + (if c.x6 then b.c12 else 0) := rfl
  have A1e : A1 b m c.x6 = b.c3 + b.c5 * hot m.t1 + (b.c7 * wrk m + 100000 - 1).tdiv 100000 + (if c.x6 then b.c13 else 0) := rfl
  have A2e : A2 b m = (b.c8 * wrk m).tdiv 100000 := rfl
  have A3e : A3 b m = (b.c9 * wrk m + 100000 - 1).tdiv 100000 := rfl
  constructor
  all_goals
    try simp only [eve, clp]
    try simp only [A0e, A1e, A2e, A3e]
    simp only [A1e, A3e] at hw1 hw2
    generalize (b.c6 * wrk m).tdiv 100000 = k1 at *
    generalize (b.c7 * wrk m + 100000 - 1).tdiv 100000 = k2 at *
    generalize (b.c8 * wrk m).tdiv 100000 = k3 at *
    generalize (b.c9 * wrk m + 100000 - 1).tdiv 100000 = k4 at *
    generalize ht * max 0 (tp - 20) = z1 at *
    generalize b.c4 * hot m.t0 = z2 at *
    generalize b.c5 * hot m.t1 = z3 at *
    generalize tl * wrk m = z4 at *
    generalize bu * wrk m = z5 at *
    generalize b.c6 * wrk m = z6 at *
    generalize b.c7 * wrk m = z7 at *
    generalize b.c8 * wrk m = z8 at *
    generalize b.c9 * wrk m = z9 at *
    cases hx : c.x6 <;> (try simp only [hx, if_true, Bool.false_eq_true, if_false] at hw1) <;> (try simp only [hx, if_true, Bool.false_eq_true, if_false]) <;> omega
end Go.Q
