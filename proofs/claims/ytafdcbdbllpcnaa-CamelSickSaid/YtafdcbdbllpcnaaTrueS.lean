/- An animal as it is, day by day, lies in what is told: plain. -/
import Derived.Test.YtafdcbdbllpcnaaNarrS
set_option linter.unusedVariables false
set_option linter.unusedSimpArgs false
namespace Go.Proofs.Ytafdcbdbllpcnaa

/-- Water and fat in hundred thousandths, sores in millionths. What a day is like in truth. -/
structure Tr where
  water : Int
  fat : Int
  sore : Int
structure Ch where
  rest : Int
  heat : Int
  warm : Int
  toil : Int
  milk : Int
  burn : Int
  drinks : Int
  grass : Int
  rub : Int
def InI (s : Int × Int) (v : Int) : Prop := s.1 ≤ v ∧ v ≤ s.2
structure ChIn (b : Br) (m : Mr) (h : Ch) : Prop where
  rest : InI b.rest h.rest
  heat : InI b.heat h.heat
  warm : InI m.heat h.warm
  toil : InI b.toil h.toil
  milk : InI b.milk h.milk
  burn : InI b.burn h.burn
  drinks : InI m.drinks h.drinks
  grass : InI m.grass h.grass
  rub : InI b.rub h.rub
structure Tin (t : Tr) (c : Cm) : Prop where
  w1 : 100000 * c.water.1 ≤ t.water
  w2 : t.water ≤ 100000 * c.water.2
  f1 : 100000 * c.fat.1 ≤ t.fat
  f2 : t.fat ≤ 100000 * c.fat.2
  s1 : 1000000 * c.sore.1 ≤ t.sore
  s2 : t.sore ≤ 1000000 * c.sore.2
def walkS (m : Mr) : Int := m.hours * (100000 + m.load)
/-- Water and fat behind the losses; whether it lives; in the evening. -/
def w1T (m : Mr) (h : Ch) (t : Tr) : Int := t.water - (100000 * (h.rest + h.heat * mx 0 (h.warm - 20)) + h.toil * walkS m)
def w2T (k : Bool) (m : Mr) (h : Ch) (t : Tr) : Int := if k = true then w1T m h t - 100000 * h.milk else w1T m h t
def f1T (m : Mr) (h : Ch) (t : Tr) : Int := t.fat - h.burn * walkS m
def livT (k : Bool) (m : Mr) (h : Ch) (t : Tr) : Bool := decide (¬ w2T k m h t < 0) && decide (¬ f1T m h t < 0)
def w3T (b : Br) (k : Bool) (m : Mr) (h : Ch) (t : Tr) : Int := mn (100000 * b.full) (w2T k m h t + 100000 * h.drinks)
def f2T (b : Br) (m : Mr) (h : Ch) (t : Tr) : Int := mn (100000 * b.fed) (f1T m h t + 100000 * h.grass)
def s1T (m : Mr) (h : Ch) (t : Tr) : Int := mn 1000000000 (t.sore + h.rub * m.hours * m.load)
def s2T (b : Br) (m : Mr) (h : Ch) (t : Tr) : Int := if m.hours = 0 then mx 0 (s1T m h t - 1000000 * b.heal) else s1T m h t
def eveT (b : Br) (k : Bool) (m : Mr) (h : Ch) (t : Tr) : Tr := ⟨w3T b k m h t, f2T b m h t, s2T b m h t⟩

section
variable {b : Br} {c : Cm} {m : Mr} {h : Ch} {t : Tr}
theorem div_lo {x d : Int} (hd : 1 ≤ d) : d * (x / d) ≤ x := Int.mul_ediv_self_le (by omega)
theorem div_hi {x d : Int} (hd : 1 ≤ d) : x ≤ d * ((x + d - 1) / d) := by
  have h1 := Int.lt_ediv_add_one_mul_self (x + d - 1) (show 0 < d by omega)
  rw [Int.add_mul, Int.one_mul, Int.mul_comm] at h1
  omega
theorem prod_in {s u : Int × Int} {x y : Int} (h0 : 0 ≤ s.1) (hx : InI s x) (k0 : 0 ≤ u.1) (hy : InI u y) : s.1 * u.1 ≤ x * y ∧ x * y ≤ s.2 * u.2 :=
  ⟨mul_mono h0 hx.1 k0 hy.1, mul_mono (by have := hx.1; omega) hx.2 (by have := hy.1; omega) hy.2⟩
/-- What a day costs in truth lies in what is told. -/
theorem cost_in (hb : BdB b) (hm : BdM m) (hh : ChIn b m h) (k : Bool) :
    100000 * (waS b k m).1 ≤ t.water - w2T k m h t ∧ t.water - w2T k m h t ≤ 100000 * (waS b k m).2 ∧ 100000 * (faS b m).1 ≤ t.fat - f1T m h t ∧ t.fat - f1T m h t ≤ 100000 * (faS b m).2 := by
  have e1 : InI (hsS m) (mx 0 (h.warm - 20)) := by
    have := hh.warm
    simp only [InI, hsS, mx_max] at *
    omega
  obtain ⟨p1, p2⟩ := prod_in hb.heat.1 hh.heat (hsS_bd hm).1 e1
  have e2 : InI (buS m) (walkS m) := ⟨Int.le_refl _, Int.le_refl _⟩
  obtain ⟨q1, q2⟩ := prod_in hb.toil.1 hh.toil (buS_bd hm).1 e2
  obtain ⟨r1, r2⟩ := prod_in hb.burn.1 hh.burn (buS_bd hm).1 e2
  have q3 := div_lo (x := b.toil.1 * (buS m).1) (d := 100000) (by omega)
  have q4 := div_hi (x := b.toil.2 * (buS m).2) (d := 100000) (by omega)
  have r3 := div_lo (x := b.burn.1 * (buS m).1) (d := 100000) (by omega)
  have r4 := div_hi (x := b.burn.2 * (buS m).2) (d := 100000) (by omega)
  have g1 := hh.rest
  have g2 := hh.milk
  unfold InI at g1 g2
  have x1 : (sc 1 b.heat (hsS m)).1 = b.heat.1 * (hsS m).1 := by simp [sc]
  have x2 : (sc 1 b.heat (hsS m)).2 = b.heat.2 * (hsS m).2 := by simp [sc]
  have y1 : (sc 100000 b.toil (buS m)).1 = b.toil.1 * (buS m).1 / 100000 := rfl
  have y2 : (sc 100000 b.toil (buS m)).2 = (b.toil.2 * (buS m).2 + 100000 - 1) / 100000 := rfl
  have z1 : (faS b m).1 = b.burn.1 * (buS m).1 / 100000 := rfl
  have z2 : (faS b m).2 = (b.burn.2 * (buS m).2 + 100000 - 1) / 100000 := rfl
  have v1 : (wa0S b m).1 = b.rest.1 + b.heat.1 * (hsS m).1 + b.toil.1 * (buS m).1 / 100000 := by rw [← x1, ← y1]; rfl
  have v2 : (wa0S b m).2 = b.rest.2 + b.heat.2 * (hsS m).2 + (b.toil.2 * (buS m).2 + 100000 - 1) / 100000 := by rw [← x2, ← y2]; rfl
  rw [z1, z2]
  generalize b.heat.1 * (hsS m).1 = P1 at *
  generalize b.heat.2 * (hsS m).2 = P2 at *
  generalize b.toil.1 * (buS m).1 / 100000 = Q1 at *
  generalize (b.toil.2 * (buS m).2 + 100000 - 1) / 100000 = Q2 at *
  generalize b.burn.1 * (buS m).1 / 100000 = R1 at *
  generalize (b.burn.2 * (buS m).2 + 100000 - 1) / 100000 = R2 at *
  unfold f1T w2T
  have u1 : w1T m h t = t.water - (100000 * (h.rest + h.heat * mx 0 (h.warm - 20)) + h.toil * walkS m) := rfl
  generalize h.heat * mx 0 (h.warm - 20) = P at *
  generalize h.toil * walkS m = Q at *
  generalize h.burn * walkS m = R at *
  cases k
  · have w1 : (waS b false m).1 = (wa0S b m).1 := rfl
    have w2 : (waS b false m).2 = (wa0S b m).2 := rfl
    rw [w1, w2, v1, v2]
    simp only [Bool.false_eq_true, if_false]
    omega
  · have w1 : (waS b true m).1 = (wa0S b m).1 + b.milk.1 := rfl
    have w2 : (waS b true m).2 = (wa0S b m).2 + b.milk.2 := rfl
    rw [w1, w2, v1, v2]
    simp only [if_true]
    omega
theorem true_dies (hb : BdB b) (hm : BdM m) (hh : ChIn b m h) (ht : Tin t c) (hd : diesS b c m = true) : livT c.milks m h t = false := by
  obtain ⟨h1, h2, h3, h4⟩ := cost_in (t := t) hb hm hh c.milks
  have k1 := ht.w2
  have k2 := ht.f2
  simp only [diesS, Bool.or_eq_true, decide_eq_true_eq] at hd
  simp only [livT, Bool.and_eq_false_iff, decide_eq_false_iff_not, Decidable.not_not]
  omega
theorem true_lives (hb : BdB b) (hm : BdM m) (hh : ChIn b m h) (ht : Tin t c) (hd : openS b c m = false) : livT c.milks m h t = true := by
  obtain ⟨h1, h2, h3, h4⟩ := cost_in (t := t) hb hm hh c.milks
  have k1 := ht.w1
  have k2 := ht.f1
  simp only [openS, Bool.or_eq_false_iff, decide_eq_false_iff_not] at hd
  simp only [livT, Bool.and_eq_true, decide_eq_true_eq]
  omega
theorem livT_parts {k : Bool} (hl : livT k m h t = true) : 0 ≤ w2T k m h t ∧ 0 ≤ f1T m h t := by
  simp only [livT, Bool.and_eq_true, decide_eq_true_eq] at hl
  omega
theorem true_eve (hb : BdB b) (hc : BdC b c) (hm : BdM m) (hh : ChIn b m h) (ht : Tin t c) (hl : livT c.milks m h t = true) : Tin (eveT b c.milks m h t) (eveC b c m) := by
  obtain ⟨h1, h2, h3, h4⟩ := cost_in (t := t) hb hm hh c.milks
  obtain ⟨l1, l2⟩ := livT_parts hl
  have k1 := ht.w1; have k2 := ht.w2; have k3 := ht.f1; have k4 := ht.f2; have k5 := ht.s1; have k6 := ht.s2
  have d := hh.drinks; have g := hh.grass
  have b1 := hb.full; have b2 := hb.fed; have b3 := hb.heal
  have c1 := hc.water; have c2 := hc.fat; have c3 := hc.sore
  have m1 := hm.hours; have m2 := hm.load; have m3 := hm.grass; have m4 := hm.drinks
  obtain ⟨a1, a2⟩ := prod_in hb.rub.1 hh.rub (ruS_bd hm).1 (show InI (ruS m) (m.hours * m.load) from ⟨Int.le_refl _, Int.le_refl _⟩)
  have r3 := div_lo (x := b.rub.1 * (ruS m).1) (d := 1000000) (by omega)
  have r4 := div_hi (x := b.rub.2 * (ruS m).2) (d := 1000000) (by omega)
  have z1 : (soS b m).1 = b.rub.1 * (ruS m).1 / 1000000 := rfl
  have z2 : (soS b m).2 = (b.rub.2 * (ruS m).2 + 1000000 - 1) / 1000000 := rfl
  have zb := soS_bd hb hm
  have er : h.rub * m.hours * m.load = h.rub * (m.hours * m.load) := Int.mul_assoc _ _ _
  unfold InI at d g
  rw [z1, z2] at zb
  refine ⟨?_, ?_, ?_, ?_, ?_, ?_⟩
  · simp only [eveT, w3T, eveC, refS, cl, ad, ls, mn_min, mx_max]; omega
  · simp only [eveT, w3T, eveC, refS, cl, ad, ls, mn_min, mx_max]; omega
  · simp only [eveT, f2T, eveC, refS, cl, ad, ls, mn_min, mx_max]; omega
  · simp only [eveT, f2T, eveC, refS, cl, ad, ls, mn_min, mx_max]; omega
  · by_cases h0 : m.hours = 0
    · have e0 : (soS b m).1 = 0 := by rw [z1]; simp [ruS, h0]
      simp only [eveT, s2T, s1T, eveC, soreS, healS, cl, ad, ls, mn_min, mx_max, h0, e0, if_true, Int.mul_zero, Int.zero_mul]
      omega
    · simp only [eveT, s2T, s1T, eveC, soreS, healS, cl, ad, ls, mn_min, mx_max, er, z1, h0, if_false]
      generalize b.rub.1 * (ruS m).1 / 1000000 = R1 at *
      generalize h.rub * (m.hours * m.load) = R at *
      omega
  · by_cases h0 : m.hours = 0
    · have e0 : (soS b m).2 = 0 := by rw [z2]; simp [ruS, h0]
      simp only [eveT, s2T, s1T, eveC, soreS, healS, cl, ad, ls, mn_min, mx_max, h0, e0, if_true, Int.mul_zero, Int.zero_mul]
      omega
    · simp only [eveT, s2T, s1T, eveC, soreS, healS, cl, ad, ls, mn_min, mx_max, er, z2, h0, if_false]
      generalize (b.rub.2 * (ruS m).2 + 1000000 - 1) / 1000000 = R2 at *
      generalize h.rub * (m.hours * m.load) = R at *
      omega
/-- How fit it is in truth lies in what is told; so does what it can carry. -/
theorem true_fit (hb : BdB b) (hc : BdC b c) (ht : Tin t c) :
    (fitS b c).1 ≤ 1000 ∧ ¬ 2000 * t.water < (fitS b c).1 * 100000 * b.full ∧ ¬ 2000 * t.fat < (fitS b c).1 * 100000 * b.fed ∧ ¬ 1000000000 - t.sore < 1000000 * (fitS b c).1 ∧
      ((fitS b c).2 < 1000 → (fitS b c).2 * 100000 * b.full < 2000 * t.water → (fitS b c).2 * 100000 * b.fed < 2000 * t.fat → ¬ 1000000 * (fitS b c).2 < 1000000000 - t.sore) := by
  have k1 := ht.w1; have k2 := ht.w2; have k3 := ht.f1; have k4 := ht.f2; have k5 := ht.s1; have k6 := ht.s2
  have b1 := hb.full; have b2 := hb.fed
  have q1 := div_lo (x := 2000 * c.water.1) (d := b.full) b1.1
  have q2 := div_lo (x := 2000 * c.fat.1) (d := b.fed) b2.1
  have q3 := div_hi (x := 2000 * c.water.2) (d := b.full) b1.1
  have q4 := div_hi (x := 2000 * c.fat.2) (d := b.fed) b2.1
  have e1 : (fitS b c).1 ≤ 2000 * c.water.1 / b.full ∧ (fitS b c).1 ≤ 2000 * c.fat.1 / b.fed ∧ (fitS b c).1 ≤ 1000 - c.sore.2 ∧ (fitS b c).1 ≤ 1000 := by
    simp only [fitS, mn_min]; omega
  have e2 : (fitS b c).2 = 1000 ∨ (fitS b c).2 = (2000 * c.water.2 + b.full - 1) / b.full ∨ (fitS b c).2 = (2000 * c.fat.2 + b.fed - 1) / b.fed ∨ (fitS b c).2 = 1000 - c.sore.1 := by
    simp only [fitS, mn_min]; omega
  generalize (fitS b c).1 = f1 at *
  generalize (fitS b c).2 = f2 at *
  have m1 : b.full * f1 ≤ b.full * (2000 * c.water.1 / b.full) := Int.mul_le_mul_of_nonneg_left e1.1 (by omega)
  have m2 : b.fed * f1 ≤ b.fed * (2000 * c.fat.1 / b.fed) := Int.mul_le_mul_of_nonneg_left e1.2.1 (by omega)
  have n1 : f1 * 100000 * b.full = 100000 * (b.full * f1) := by rw [Int.mul_comm f1, Int.mul_assoc, Int.mul_comm f1]
  have n2 : f1 * 100000 * b.fed = 100000 * (b.fed * f1) := by rw [Int.mul_comm f1, Int.mul_assoc, Int.mul_comm f1]
  have n3 : f2 * 100000 * b.full = 100000 * (b.full * f2) := by rw [Int.mul_comm f2, Int.mul_assoc, Int.mul_comm f2]
  have n4 : f2 * 100000 * b.fed = 100000 * (b.fed * f2) := by rw [Int.mul_comm f2, Int.mul_assoc, Int.mul_comm f2]
  refine ⟨e1.2.2.2, ?_, ?_, by omega, ?_⟩
  · rw [n1]; generalize b.full * f1 = u at *; generalize b.full * (2000 * c.water.1 / b.full) = v at *; omega
  · rw [n2]; generalize b.fed * f1 = u at *; generalize b.fed * (2000 * c.fat.1 / b.fed) = v at *; omega
  · intro h1 h2 h3 h4
    rw [n3] at h2
    rw [n4] at h3
    rcases e2 with e | e | e | e
    · omega
    · rw [← e] at q3; generalize b.full * f2 = u at *; omega
    · rw [← e] at q4; generalize b.fed * f2 = u at *; omega
    · omega
theorem true_car {s : Int} (hb : BdB b) (hc : BdC b c) (hs : InI b.strong s) :
    ¬ s * (fitS b c).1 < (carS b c).1 * 1000 ∧ ¬ (carS b c).2 * 1000 < s * (fitS b c).2 := by
  obtain ⟨f1, f2, f3, f4⟩ := fitS_bd hb hc
  have h0 := hb.strong
  have a := mul_mono h0.1 hs.1 f1 (Int.le_refl _)
  have d := mul_mono (show 0 ≤ s by have := hs.1; omega) hs.2 f3 (Int.le_refl _)
  have q1 := div_lo (x := b.strong.1 * (fitS b c).1) (d := 1000) (by omega)
  have q2 := div_hi (x := b.strong.2 * (fitS b c).2) (d := 1000) (by omega)
  have z1 : (carS b c).1 = b.strong.1 * (fitS b c).1 / 1000 := rfl
  have z2 : (carS b c).2 = (b.strong.2 * (fitS b c).2 + 1000 - 1) / 1000 := rfl
  rw [z1, z2]
  omega
end
end Go.Proofs.Ytafdcbdbllpcnaa
