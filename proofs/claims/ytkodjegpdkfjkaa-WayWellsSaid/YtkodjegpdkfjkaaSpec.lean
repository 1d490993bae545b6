/- Plain functions: what layer 1 (camel) of the document says of a breed, an animal and a day. No program is named here. -/
set_option linter.unusedVariables false
set_option linter.unusedSimpArgs false
namespace Go.Proofs.Ytkodjegpdkfjkaa

/-- A breed, an animal, a day: numbers. -/
structure Br where
  full : Int
  fed : Int
  rest : Int × Int
  heat : Int × Int
  toil : Int × Int
  burn : Int × Int
  rub : Int × Int
  milk : Int × Int
  heal : Int
  strong : Int × Int
structure Cm where
  water : Int × Int
  fat : Int × Int
  sore : Int × Int
  milks : Bool
structure Mr where
  hours : Int
  load : Int
  heat : Int × Int
  grass : Int × Int
  drinks : Int × Int

def okSpan (most : Int) (s : Int × Int) : Bool := decide (0 ≤ s.1) && decide (s.1 ≤ s.2) && decide (s.2 ≤ most)

def okB1 (b : Br) : Bool := decide (1 ≤ b.full) && decide (b.full ≤ 1000000) && decide (1 ≤ b.fed) && decide (b.fed ≤ 1000000)
def okB2 (b : Br) : Bool := [b.rest, b.heat, b.toil, b.burn, b.rub, b.milk].all (okSpan 100000)
def okB3 (b : Br) : Bool := decide (0 ≤ b.heal) && decide (b.heal ≤ 1000)
def okB4 (b : Br) : Bool := [b.strong].all (okSpan 1000000)
def okB (b : Br) : Bool := okB1 b && okB2 b && okB3 b && okB4 b
def inB (lo hi n : Int) : Bool := decide (lo ≤ n) && decide (n ≤ hi)
def refB (b : Br) : Bool := inB 1 1000000 b.full && inB 1 1000000 b.fed && inB 0 1000 b.heal && okSpan 1000000 b.strong &&
  okSpan 100000 b.rest && okSpan 100000 b.heat && okSpan 100000 b.toil && okSpan 100000 b.burn && okSpan 100000 b.rub && okSpan 100000 b.milk
theorem refB_eq (b : Br) : refB b = okB b := by
  simp only [refB, okB, okB1, okB2, okB3, okB4, inB, List.all_cons, List.all_nil, Bool.and_true]
  rw [Bool.eq_iff_iff]
  simp only [Bool.and_eq_true]
  constructor
  · rintro ⟨⟨⟨⟨⟨⟨⟨⟨⟨⟨a1, a2⟩, a3, a4⟩, a5, a6⟩, a7⟩, a8⟩, a9⟩, a10⟩, a11⟩, a12⟩, a13⟩
    exact ⟨⟨⟨⟨⟨⟨a1, a2⟩, a3⟩, a4⟩, a8, a9, a10, a11, a12, a13⟩, a5, a6⟩, a7⟩
  · rintro ⟨⟨⟨⟨⟨⟨a1, a2⟩, a3⟩, a4⟩, a8, a9, a10, a11, a12, a13⟩, a5, a6⟩, a7⟩
    exact ⟨⟨⟨⟨⟨⟨⟨⟨⟨⟨a1, a2⟩, a3, a4⟩, a5, a6⟩, a7⟩, a8⟩, a9⟩, a10⟩, a11⟩, a12⟩, a13⟩
def okC (b : Br) (c : Cm) : Bool := okSpan b.full c.water && okSpan b.fed c.fat && okSpan 1000 c.sore
def okM (m : Mr) : Bool := inB 0 24 m.hours && inB 0 1000000 m.load && okSpan 60 m.heat && okSpan 1000000 m.grass && okSpan 1000000 m.drinks

/-- The product of spans, and their sum. -/
def prodS : List (Int × Int) → Int × Int → Int × Int
  | [], p => p
  | s :: l, p => prodS l (p.1 * s.1, p.2 * s.2)
def sumS : List (Int × Int) → Int × Int → Int × Int
  | [], p => p
  | s :: l, p => sumS l (p.1 + s.1, p.2 + s.2)
def scaledS (d : Int) (l : List (Int × Int)) : Int × Int := ((prodS l (1, 1)).1 / d, ((prodS l (1, 1)).2 + d - 1) / d)

def mn (x y : Int) : Int := if y < x then y else x
def mx (x y : Int) : Int := if y > x then y else x
/-- How fit a valid animal is; what it can carry. -/
def fitS (b : Br) (c : Cm) : Int × Int :=
  (mn (mn (mn 1000 (2000 * c.water.1 / b.full)) (2000 * c.fat.1 / b.fed)) (1000 - c.sore.2),
   mn (mn (mn 1000 ((2000 * c.water.2 + b.full - 1) / b.full)) ((2000 * c.fat.2 + b.fed - 1) / b.fed)) (1000 - c.sore.1))
def carS (b : Br) (c : Cm) : Int × Int := (b.strong.1 * (fitS b c).1 / 1000, (b.strong.2 * (fitS b c).2 + 1000 - 1) / 1000)
theorem okSpan_bd {m : Int} {s : Int × Int} (h : okSpan m s = true) : 0 ≤ s.1 ∧ s.1 ≤ s.2 ∧ s.2 ≤ m := by
  simp only [okSpan, Bool.and_eq_true, decide_eq_true_eq] at h
  exact ⟨h.1.1, h.1.2, h.2⟩
/-- Bounds of a valid breed's numbers. -/
structure BdB (b : Br) : Prop where
  full : 1 ≤ b.full ∧ b.full ≤ 1000000
  fed : 1 ≤ b.fed ∧ b.fed ≤ 1000000
  rest : 0 ≤ b.rest.1 ∧ b.rest.1 ≤ b.rest.2 ∧ b.rest.2 ≤ 100000
  heat : 0 ≤ b.heat.1 ∧ b.heat.1 ≤ b.heat.2 ∧ b.heat.2 ≤ 100000
  toil : 0 ≤ b.toil.1 ∧ b.toil.1 ≤ b.toil.2 ∧ b.toil.2 ≤ 100000
  burn : 0 ≤ b.burn.1 ∧ b.burn.1 ≤ b.burn.2 ∧ b.burn.2 ≤ 100000
  rub : 0 ≤ b.rub.1 ∧ b.rub.1 ≤ b.rub.2 ∧ b.rub.2 ≤ 100000
  milk : 0 ≤ b.milk.1 ∧ b.milk.1 ≤ b.milk.2 ∧ b.milk.2 ≤ 100000
  heal : 0 ≤ b.heal ∧ b.heal ≤ 1000
  strong : 0 ≤ b.strong.1 ∧ b.strong.1 ≤ b.strong.2 ∧ b.strong.2 ≤ 1000000
theorem okB_bd {b : Br} (h : okB b = true) : BdB b := by
  simp only [okB, okB1, okB2, okB3, okB4, List.all_cons, List.all_nil, Bool.and_true, Bool.and_eq_true, decide_eq_true_eq] at h
  obtain ⟨⟨⟨⟨⟨⟨a1, a2⟩, a3⟩, a4⟩, a8, a9, a10, a11, a12, a13⟩, a5, a6⟩, a7⟩ := h
  exact ⟨⟨a1, a2⟩, ⟨a3, a4⟩, okSpan_bd a8, okSpan_bd a9, okSpan_bd a10, okSpan_bd a11, okSpan_bd a12, okSpan_bd a13, ⟨a5, a6⟩, okSpan_bd a7⟩
structure BdC (b : Br) (c : Cm) : Prop where
  water : 0 ≤ c.water.1 ∧ c.water.1 ≤ c.water.2 ∧ c.water.2 ≤ b.full
  fat : 0 ≤ c.fat.1 ∧ c.fat.1 ≤ c.fat.2 ∧ c.fat.2 ≤ b.fed
  sore : 0 ≤ c.sore.1 ∧ c.sore.1 ≤ c.sore.2 ∧ c.sore.2 ≤ 1000
theorem okC_bd {b : Br} {c : Cm} (h : okC b c = true) : BdC b c := by
  simp only [okC, Bool.and_eq_true] at h
  exact ⟨okSpan_bd h.1.1, okSpan_bd h.1.2, okSpan_bd h.2⟩
structure BdM (m : Mr) : Prop where
  hours : 0 ≤ m.hours ∧ m.hours ≤ 24
  load : 0 ≤ m.load ∧ m.load ≤ 1000000
  heat : 0 ≤ m.heat.1 ∧ m.heat.1 ≤ m.heat.2 ∧ m.heat.2 ≤ 60
  grass : 0 ≤ m.grass.1 ∧ m.grass.1 ≤ m.grass.2 ∧ m.grass.2 ≤ 1000000
  drinks : 0 ≤ m.drinks.1 ∧ m.drinks.1 ≤ m.drinks.2 ∧ m.drinks.2 ≤ 1000000
theorem okM_bd {m : Mr} (h : okM m = true) : BdM m := by
  simp only [okM, inB, Bool.and_eq_true, decide_eq_true_eq] at h
  obtain ⟨⟨⟨⟨⟨a1, a2⟩, a3, a4⟩, a5⟩, a6⟩, a7⟩ := h
  exact ⟨⟨a1, a2⟩, ⟨a3, a4⟩, okSpan_bd a5, okSpan_bd a6, okSpan_bd a7⟩

theorem mul_le {x y a b : Int} (hx : 0 ≤ x) (hy : 0 ≤ y) (ha : x ≤ a) (hb : y ≤ b) : 0 ≤ x * y ∧ x * y ≤ a * b :=
  ⟨Int.mul_nonneg hx hy, Int.mul_le_mul ha hb hy (Int.le_trans hx ha)⟩

theorem fitS_bd {b : Br} {c : Cm} (hb : BdB b) (hc : BdC b c) : 0 ≤ (fitS b c).1 ∧ (fitS b c).1 ≤ 1000 ∧ 0 ≤ (fitS b c).2 ∧ (fitS b c).2 ≤ 1000 := by
  have := hb.full
  have := hb.fed
  have := hc.water
  have := hc.fat
  have := hc.sore
  have q1 : 0 ≤ 2000 * c.water.1 / b.full := Int.ediv_nonneg (by omega) (by omega)
  have q2 : 0 ≤ 2000 * c.fat.1 / b.fed := Int.ediv_nonneg (by omega) (by omega)
  have q3 : 0 ≤ (2000 * c.water.2 + b.full - 1) / b.full := Int.ediv_nonneg (by omega) (by omega)
  have q4 : 0 ≤ (2000 * c.fat.2 + b.fed - 1) / b.fed := Int.ediv_nonneg (by omega) (by omega)
  simp only [fitS, mn]
  generalize 2000 * c.water.1 / b.full = x1 at *
  generalize 2000 * c.fat.1 / b.fed = x2 at *
  generalize (2000 * c.water.2 + b.full - 1) / b.full = x3 at *
  generalize (2000 * c.fat.2 + b.fed - 1) / b.fed = x4 at *
  refine ⟨?_, ?_, ?_, ?_⟩ <;> (repeat' split) <;> omega
end Go.Proofs.Ytkodjegpdkfjkaa
