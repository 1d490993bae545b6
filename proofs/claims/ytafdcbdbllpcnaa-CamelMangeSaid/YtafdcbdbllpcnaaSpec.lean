/- Plain functions: what layer 1 (camel) of the document says of a breed, an animal and a day. No program is named here. -/
namespace Go.Proofs.Ytafdcbdbllpcnaa

/-- A breed, an animal, a day: numbers. -/
structure Br where
  full : Int
  fed : Int
  rest : Int × Int
  heat : Int × Int
  toil : Int × Int
  burn : Int × Int
  rub : Int × Int
  milk : Int × Int
  heal : Int
  strong : Int × Int
structure Cm where
  water : Int × Int
  fat : Int × Int
  sore : Int × Int
  milks : Bool
structure Mr where
  hours : Int
  load : Int
  heat : Int × Int
  grass : Int × Int
  drinks : Int × Int

def okSpan (most : Int) (s : Int × Int) : Bool := decide (0 ≤ s.1) && decide (s.1 ≤ s.2) && decide (s.2 ≤ most)

def okB1 (b : Br) : Bool := decide (1 ≤ b.full) && decide (b.full ≤ 1000000) && decide (1 ≤ b.fed) && decide (b.fed ≤ 1000000)
def okB2 (b : Br) : Bool := [b.rest, b.heat, b.toil, b.burn, b.rub, b.milk].all (okSpan 100000)
def okB3 (b : Br) : Bool := decide (0 ≤ b.heal) && decide (b.heal ≤ 1000)
def okB4 (b : Br) : Bool := [b.strong].all (okSpan 1000000)
def okB (b : Br) : Bool := okB1 b && okB2 b && okB3 b && okB4 b
def inB (lo hi n : Int) : Bool := decide (lo ≤ n) && decide (n ≤ hi)
def refB (b : Br) : Bool := inB 1 1000000 b.full && inB 1 1000000 b.fed && inB 0 1000 b.heal && okSpan 1000000 b.strong &&
  okSpan 100000 b.rest && okSpan 100000 b.heat && okSpan 100000 b.toil && okSpan 100000 b.burn && okSpan 100000 b.rub && okSpan 100000 b.milk
theorem refB_eq (b : Br) : refB b = okB b := by
  simp only [refB, okB, okB1, okB2, okB3, okB4, inB, List.all_cons, List.all_nil, Bool.and_true]
  rw [Bool.eq_iff_iff]
  simp only [Bool.and_eq_true]
  constructor
  · rintro ⟨⟨⟨⟨⟨⟨⟨⟨⟨⟨a1, a2⟩, a3, a4⟩, a5, a6⟩, a7⟩, a8⟩, a9⟩, a10⟩, a11⟩, a12⟩, a13⟩
    exact ⟨⟨⟨⟨⟨⟨a1, a2⟩, a3⟩, a4⟩, a8, a9, a10, a11, a12, a13⟩, a5, a6⟩, a7⟩
  · rintro ⟨⟨⟨⟨⟨⟨a1, a2⟩, a3⟩, a4⟩, a8, a9, a10, a11, a12, a13⟩, a5, a6⟩, a7⟩
    exact ⟨⟨⟨⟨⟨⟨⟨⟨⟨⟨a1, a2⟩, a3, a4⟩, a5, a6⟩, a7⟩, a8⟩, a9⟩, a10⟩, a11⟩, a12⟩, a13⟩
def okC (b : Br) (c : Cm) : Bool := okSpan b.full c.water && okSpan b.fed c.fat && okSpan 1000 c.sore
def okM (m : Mr) : Bool := inB 0 24 m.hours && inB 0 1000000 m.load && okSpan 60 m.heat && okSpan 1000000 m.grass && okSpan 1000000 m.drinks

/-- The product of spans, and their sum. -/
def prodS : List (Int × Int) → Int × Int → Int × Int
  | [], p => p
  | s :: l, p => prodS l (p.1 * s.1, p.2 * s.2)
def sumS : List (Int × Int) → Int × Int → Int × Int
  | [], p => p
  | s :: l, p => sumS l (p.1 + s.1, p.2 + s.2)
def scaledS (d : Int) (l : List (Int × Int)) : Int × Int := ((prodS l (1, 1)).1 / d, ((prodS l (1, 1)).2 + d - 1) / d)

def mn (x y : Int) : Int := if y < x then y else x
def mx (x y : Int) : Int := if y > x then y else x
/-- How fit a valid animal is; what it can carry. -/
def fitS (b : Br) (c : Cm) : Int × Int :=
  (mn (mn (mn 1000 (2000 * c.water.1 / b.full)) (2000 * c.fat.1 / b.fed)) (1000 - c.sore.2),
   mn (mn (mn 1000 ((2000 * c.water.2 + b.full - 1) / b.full)) ((2000 * c.fat.2 + b.fed - 1) / b.fed)) (1000 - c.sore.1))
def carS (b : Br) (c : Cm) : Int × Int := (b.strong.1 * (fitS b c).1 / 1000, (b.strong.2 * (fitS b c).2 + 1000 - 1) / 1000)
theorem okSpan_bd {m : Int} {s : Int × Int} (h : okSpan m s = true) : 0 ≤ s.1 ∧ s.1 ≤ s.2 ∧ s.2 ≤ m := by
  simp only [okSpan, Bool.and_eq_true, decide_eq_true_eq] at h
  exact ⟨h.1.1, h.1.2, h.2⟩
/-- Bounds of a valid breed's numbers. -/
structure BdB (b : Br) : Prop where
  full : 1 ≤ b.full ∧ b.full ≤ 1000000
  fed : 1 ≤ b.fed ∧ b.fed ≤ 1000000
  rest : 0 ≤ b.rest.1 ∧ b.rest.1 ≤ b.rest.2 ∧ b.rest.2 ≤ 100000
  heat : 0 ≤ b.heat.1 ∧ b.heat.1 ≤ b.heat.2 ∧ b.heat.2 ≤ 100000
  toil : 0 ≤ b.toil.1 ∧ b.toil.1 ≤ b.toil.2 ∧ b.toil.2 ≤ 100000
  burn : 0 ≤ b.burn.1 ∧ b.burn.1 ≤ b.burn.2 ∧ b.burn.2 ≤ 100000
  rub : 0 ≤ b.rub.1 ∧ b.rub.1 ≤ b.rub.2 ∧ b.rub.2 ≤ 100000
  milk : 0 ≤ b.milk.1 ∧ b.milk.1 ≤ b.milk.2 ∧ b.milk.2 ≤ 100000
  heal : 0 ≤ b.heal ∧ b.heal ≤ 1000
  strong : 0 ≤ b.strong.1 ∧ b.strong.1 ≤ b.strong.2 ∧ b.strong.2 ≤ 1000000
theorem okB_bd {b : Br} (h : okB b = true) : BdB b := by
  simp only [okB, okB1, okB2, okB3, okB4, List.all_cons, List.all_nil, Bool.and_true, Bool.and_eq_true, decide_eq_true_eq] at h
  obtain ⟨⟨⟨⟨⟨⟨a1, a2⟩, a3⟩, a4⟩, a8, a9, a10, a11, a12, a13⟩, a5, a6⟩, a7⟩ := h
  exact ⟨⟨a1, a2⟩, ⟨a3, a4⟩, okSpan_bd a8, okSpan_bd a9, okSpan_bd a10, okSpan_bd a11, okSpan_bd a12, okSpan_bd a13, ⟨a5, a6⟩, okSpan_bd a7⟩
structure BdC (b : Br) (c : Cm) : Prop where
  water : 0 ≤ c.water.1 ∧ c.water.1 ≤ c.water.2 ∧ c.water.2 ≤ b.full
  fat : 0 ≤ c.fat.1 ∧ c.fat.1 ≤ c.fat.2 ∧ c.fat.2 ≤ b.fed
  sore : 0 ≤ c.sore.1 ∧ c.sore.1 ≤ c.sore.2 ∧ c.sore.2 ≤ 1000
theorem okC_bd {b : Br} {c : Cm} (h : okC b c = true) : BdC b c := by
  simp only [okC, Bool.and_eq_true] at h
  exact ⟨okSpan_bd h.1.1, okSpan_bd h.1.2, okSpan_bd h.2⟩
structure BdM (m : Mr) : Prop where
  hours : 0 ≤ m.hours ∧ m.hours ≤ 24
  load : 0 ≤ m.load ∧ m.load ≤ 1000000
  heat : 0 ≤ m.heat.1 ∧ m.heat.1 ≤ m.heat.2 ∧ m.heat.2 ≤ 60
  grass : 0 ≤ m.grass.1 ∧ m.grass.1 ≤ m.grass.2 ∧ m.grass.2 ≤ 1000000
  drinks : 0 ≤ m.drinks.1 ∧ m.drinks.1 ≤ m.drinks.2 ∧ m.drinks.2 ≤ 1000000
theorem okM_bd {m : Mr} (h : okM m = true) : BdM m := by
  simp only [okM, inB, Bool.and_eq_true, decide_eq_true_eq] at h
  obtain ⟨⟨⟨⟨⟨a1, a2⟩, a3, a4⟩, a5⟩, a6⟩, a7⟩ := h
  exact ⟨⟨a1, a2⟩, ⟨a3, a4⟩, okSpan_bd a5, okSpan_bd a6, okSpan_bd a7⟩

theorem mul_le {x y a b : Int} (hx : 0 ≤ x) (hy : 0 ≤ y) (ha : x ≤ a) (hb : y ≤ b) : 0 ≤ x * y ∧ x * y ≤ a * b :=
  ⟨Int.mul_nonneg hx hy, Int.mul_le_mul ha hb hy (Int.le_trans hx ha)⟩

theorem fitS_bd {b : Br} {c : Cm} (hb : BdB b) (hc : BdC b c) : 0 ≤ (fitS b c).1 ∧ (fitS b c).1 ≤ 1000 ∧ 0 ≤ (fitS b c).2 ∧ (fitS b c).2 ≤ 1000 := by
  have := hb.full
  have := hb.fed
  have := hc.water
  have := hc.fat
  have := hc.sore
  have q1 : 0 ≤ 2000 * c.water.1 / b.full := Int.ediv_nonneg (by omega) (by omega)
  have q2 : 0 ≤ 2000 * c.fat.1 / b.fed := Int.ediv_nonneg (by omega) (by omega)
  have q3 : 0 ≤ (2000 * c.water.2 + b.full - 1) / b.full := Int.ediv_nonneg (by omega) (by omega)
  have q4 : 0 ≤ (2000 * c.fat.2 + b.fed - 1) / b.fed := Int.ediv_nonneg (by omega) (by omega)
  simp only [fitS, mn]
  generalize 2000 * c.water.1 / b.full = x1 at *
  generalize 2000 * c.fat.1 / b.fed = x2 at *
  generalize (2000 * c.water.2 + b.full - 1) / b.full = x3 at *
  generalize (2000 * c.fat.2 + b.fed - 1) / b.fed = x4 at *
  refine ⟨?_, ?_, ?_, ?_⟩ <;> (repeat' split) <;> omega
end Go.Proofs.Ytafdcbdbllpcnaa
/- Plain functions, continued: what a day costs. -/
namespace Go.Proofs.Ytafdcbdbllpcnaa

/-- A product divided, rounded outwards; a sum of spans. -/
def sc (d : Int) (s t : Int × Int) : Int × Int := (s.1 * t.1 / d, (s.2 * t.2 + d - 1) / d)
def ad (s t : Int × Int) : Int × Int := (s.1 + t.1, s.2 + t.2)
/-- What a day is like: degrees above 20, the burden, the load that rubs. -/
def hsS (m : Mr) : Int × Int := (mx 0 (m.heat.1 - 20), mx 0 (m.heat.2 - 20))
def buS (m : Mr) : Int × Int := (m.hours * (100000 + m.load), m.hours * (100000 + m.load))
def ruS (m : Mr) : Int × Int := (m.hours * m.load, m.hours * m.load)
/-- What a day costs in water (without milk, and with it) and in fat, and how much sorer it makes. -/
def wa0S (b : Br) (m : Mr) : Int × Int := ad (ad b.rest (sc 1 b.heat (hsS m))) (sc 100000 b.toil (buS m))
def waS (b : Br) (k : Bool) (m : Mr) : Int × Int := if k then ad (wa0S b m) b.milk else wa0S b m
def faS (b : Br) (m : Mr) : Int × Int := sc 100000 b.burn (buS m)
def soS (b : Br) (m : Mr) : Int × Int := sc 1000000 b.rub (ruS m)

theorem hsS_bd {m : Mr} (hm : BdM m) : 0 ≤ (hsS m).1 ∧ (hsS m).1 ≤ 40 ∧ 0 ≤ (hsS m).2 ∧ (hsS m).2 ≤ 40 := by
  have := hm.heat
  simp only [hsS, mx]
  refine ⟨?_, ?_, ?_, ?_⟩ <;> split <;> omega
theorem buS_bd {m : Mr} (hm : BdM m) : 0 ≤ (buS m).1 ∧ (buS m).1 ≤ 26400000 ∧ 0 ≤ (buS m).2 ∧ (buS m).2 ≤ 26400000 := by
  obtain ⟨h1, h2⟩ := hm.hours
  obtain ⟨l1, l2⟩ := hm.load
  have := mul_le h1 (by omega : 0 ≤ 100000 + m.load) h2 (by omega : 100000 + m.load ≤ 1100000)
  simp only [buS]
  omega
theorem ruS_bd {m : Mr} (hm : BdM m) : 0 ≤ (ruS m).1 ∧ (ruS m).1 ≤ 24000000 ∧ 0 ≤ (ruS m).2 ∧ (ruS m).2 ≤ 24000000 := by
  obtain ⟨h1, h2⟩ := hm.hours
  obtain ⟨l1, l2⟩ := hm.load
  have := mul_le h1 l1 h2 l2
  simp only [ruS]
  omega
theorem sc_bd {d : Int} {s t : Int × Int} {x y : Int} (hd : 1 ≤ d) (s1 : 0 ≤ s.1) (s2 : s.1 ≤ s.2) (s3 : s.2 ≤ x) (t1 : 0 ≤ t.1) (t2 : t.1 ≤ y) (t3 : 0 ≤ t.2) (t4 : t.2 ≤ y) :
    0 ≤ s.1 * t.1 ∧ s.1 * t.1 ≤ x * y ∧ 0 ≤ s.2 * t.2 ∧ s.2 * t.2 ≤ x * y ∧ 0 ≤ (sc d s t).1 ∧ (sc d s t).1 ≤ x * y ∧ 0 ≤ (sc d s t).2 ∧ (sc d s t).2 ≤ x * y := by
  obtain ⟨a1, a2⟩ := mul_le s1 t1 (Int.le_trans s2 s3) t2
  obtain ⟨a3, a4⟩ := mul_le (Int.le_trans s1 s2) t3 s3 t4
  have b1 : 0 ≤ s.1 * t.1 / d := Int.ediv_nonneg a1 (by omega)
  have b2 : s.1 * t.1 / d ≤ s.1 * t.1 := Int.ediv_le_self _ a1
  have b3 : 0 ≤ (s.2 * t.2 + d - 1) / d := Int.ediv_nonneg (by omega) (by omega)
  have b4 : (s.2 * t.2 + d - 1) / d ≤ s.2 * t.2 := by
    by_cases h : s.2 * t.2 = 0
    · rw [h]
      have : (0 + d - 1) / d = 0 := Int.ediv_eq_zero_of_lt (by omega) (by omega)
      omega
    · refine Int.le_of_lt_add_one ?_
      rw [Int.ediv_lt_iff_lt_mul (by omega)]
      have : 1 * d ≤ s.2 * t.2 * d := Int.mul_le_mul_of_nonneg_right (by omega) (by omega)
      rw [Int.add_mul]
      have h5 : s.2 * t.2 * 1 ≤ s.2 * t.2 * d := Int.mul_le_mul_of_nonneg_left (by omega) (by omega)
      omega
  simp only [sc]
  exact ⟨a1, a2, a3, a4, b1, by omega, b3, by omega⟩
/-- The cost in water as the reference adds it up. -/
def wa0R (b : Br) (m : Mr) : Int × Int := (b.rest.1 + b.heat.1 * (hsS m).1 + b.toil.1 * (buS m).1 / 100000, b.rest.2 + b.heat.2 * (hsS m).2 + (b.toil.2 * (buS m).2 + 100000 - 1) / 100000)
theorem wa0R_eq (b : Br) (m : Mr) : wa0S b m = wa0R b m := by
  simp only [wa0S, wa0R, ad, sc, Int.ediv_one]
  rw [Int.add_sub_cancel]
/-- The error of a day's cost, and the cost. -/
def chkM (b : Br) (m : Mr) : Int := if okB b = true then (if okM m = true then 0 else 12) else 10
def coW (b : Br) (k : Bool) (m : Mr) : Int × Int := if chkM b m = 0 then waS b k m else (0, 0)
def coF (b : Br) (m : Mr) : Int × Int := if chkM b m = 0 then faS b m else (0, 0)
/-- An animal without water, fat and sores. -/
def zc (k : Bool) : Cm := ⟨(0, 0), (0, 0), (0, 0), k⟩
end Go.Proofs.Ytafdcbdbllpcnaa
/- Plain functions, continued: an animal in the evening of a day. -/
namespace Go.Proofs.Ytafdcbdbllpcnaa

/-- A span moved into 0 to a number; what is left of one; what an animal has after it lost some and got some. -/
def cl (most : Int) (s : Int × Int) : Int × Int := (mn (mx s.1 0) most, mn (mx s.2 0) most)
def ls (s t : Int × Int) : Int × Int := (s.1 - t.2, s.2 - t.1)
def refS (most : Int) (h k g : Int × Int) : Int × Int := cl most (ad (cl most (ls h k)) g)
def healS (b : Br) (m : Mr) : Int := if m.hours = 0 then b.heal else 0
/-- An animal in the evening of a day; its fate. -/
def soreS (b : Br) (c : Cm) (m : Mr) : Int × Int := cl 1000 (ls (ad c.sore (soS b m)) (healS b m, healS b m))
def eveC (b : Br) (c : Cm) (m : Mr) : Cm := ⟨refS b.full c.water (waS b c.milks m) m.drinks, refS b.fed c.fat (faS b m) m.grass, soreS b c m, c.milks⟩
def diesS (b : Br) (c : Cm) (m : Mr) : Bool := decide (c.water.2 < (waS b c.milks m).1) || decide (c.fat.2 < (faS b m).1)
def openS (b : Br) (c : Cm) (m : Mr) : Bool := decide (c.water.1 < (waS b c.milks m).2) || decide (c.fat.1 < (faS b m).2)
def fateS (b : Br) (c : Cm) (m : Mr) : Int := if diesS b c m = true then 2 else if openS b c m = true then 1 else 0

theorem cl_bd {most : Int} {s : Int × Int} (h : 0 ≤ most) : 0 ≤ (cl most s).1 ∧ (cl most s).1 ≤ most ∧ 0 ≤ (cl most s).2 ∧ (cl most s).2 ≤ most := by
  simp only [cl, mn, mx]
  refine ⟨?_, ?_, ?_, ?_⟩ <;> (repeat' split) <;> omega
theorem cl_le {most : Int} {s : Int × Int} (h : s.1 ≤ s.2) : (cl most s).1 ≤ (cl most s).2 := by
  simp only [cl, mn, mx]
  (repeat' split) <;> omega
theorem ad_le {s t : Int × Int} (h : s.1 ≤ s.2) (k : t.1 ≤ t.2) : (ad s t).1 ≤ (ad s t).2 := by simp only [ad]; omega
theorem ls_le {s t : Int × Int} (h : s.1 ≤ s.2) (k : t.1 ≤ t.2) : (ls s t).1 ≤ (ls s t).2 := by simp only [ls]; omega
theorem sc_le {d : Int} {s t : Int × Int} (hd : 1 ≤ d) (s1 : 0 ≤ s.1) (s2 : s.1 ≤ s.2) (t1 : 0 ≤ t.1) (t2 : t.1 ≤ t.2) : (sc d s t).1 ≤ (sc d s t).2 := by
  have h := Int.mul_le_mul s2 t2 t1 (by omega)
  exact Int.ediv_le_ediv (by omega) (by omega)
theorem hsS_le {m : Mr} (hm : BdM m) : (hsS m).1 ≤ (hsS m).2 := by
  have := hm.heat
  simp only [hsS, mx]
  (repeat' split) <;> omega
theorem waS_bd {b : Br} {m : Mr} (k : Bool) (hb : BdB b) (hm : BdM m) : 0 ≤ (waS b k m).1 ∧ (waS b k m).1 ≤ (waS b k m).2 ∧ (waS b k m).2 ≤ 100000000000000 := by
  obtain ⟨h1, h2, h3, h4⟩ := hsS_bd hm
  obtain ⟨u1, u2, u3, u4⟩ := buS_bd hm
  obtain ⟨a1, a2, a3⟩ := hb.rest
  obtain ⟨b1, b2, b3⟩ := hb.heat
  obtain ⟨c1, c2, c3⟩ := hb.toil
  obtain ⟨f1, f2, f3⟩ := hb.milk
  obtain ⟨-, -, -, -, x1, x2, x3, x4⟩ := sc_bd (d := 1) (by omega) b1 b2 b3 h1 h2 h3 h4
  obtain ⟨-, -, -, -, y1, y2, y3, y4⟩ := sc_bd (d := 100000) (by omega) c1 c2 c3 u1 u2 u3 u4
  have l1 := sc_le (d := 1) (by omega) b1 b2 h1 (hsS_le hm)
  have l2 := sc_le (d := 100000) (s := b.toil) (t := buS m) (by omega) c1 c2 u1 (Int.le_refl _)
  cases k <;> simp only [waS, wa0S, ad, if_true, Bool.false_eq_true, if_false] <;> omega
theorem faS_bd {b : Br} {m : Mr} (hb : BdB b) (hm : BdM m) : 0 ≤ (faS b m).1 ∧ (faS b m).1 ≤ (faS b m).2 ∧ (faS b m).2 ≤ 100000000000000 := by
  obtain ⟨u1, u2, u3, u4⟩ := buS_bd hm
  obtain ⟨d1, d2, d3⟩ := hb.burn
  obtain ⟨-, -, -, -, y1, y2, y3, y4⟩ := sc_bd (d := 100000) (by omega) d1 d2 d3 u1 u2 u3 u4
  have l2 := sc_le (d := 100000) (s := b.burn) (t := buS m) (by omega) d1 d2 u1 (Int.le_refl _)
  simp only [faS]
  omega
theorem soS_bd {b : Br} {m : Mr} (hb : BdB b) (hm : BdM m) : 0 ≤ (soS b m).1 ∧ (soS b m).1 ≤ (soS b m).2 ∧ (soS b m).2 ≤ 100000000000000 := by
  obtain ⟨u1, u2, u3, u4⟩ := ruS_bd hm
  obtain ⟨d1, d2, d3⟩ := hb.rub
  obtain ⟨-, -, -, -, y1, y2, y3, y4⟩ := sc_bd (d := 1000000) (by omega) d1 d2 d3 u1 u2 u3 u4
  have l2 := sc_le (d := 1000000) (s := b.rub) (t := ruS m) (by omega) d1 d2 u1 (Int.le_refl _)
  simp only [soS]
  omega
theorem healS_bd {b : Br} {m : Mr} (hb : BdB b) : 0 ≤ healS b m ∧ healS b m ≤ 1000 := by
  have := hb.heal
  unfold healS
  split <;> omega
/-- A valid animal is valid in the evening of a valid day on which it doesn't die. -/
theorem eve_bd {b : Br} {c : Cm} {m : Mr} (hb : BdB b) (hc : BdC b c) (hm : BdM m) : BdC b (eveC b c m) := by
  obtain ⟨w1, w2, w3⟩ := waS_bd c.milks hb hm
  obtain ⟨f1, f2, f3⟩ := faS_bd hb hm
  obtain ⟨s1, s2, s3⟩ := soS_bd hb hm
  obtain ⟨x1, x2, x3⟩ := hc.water
  obtain ⟨y1, y2, y3⟩ := hc.fat
  obtain ⟨z1, z2, z3⟩ := hc.sore
  obtain ⟨g1, g2, g3⟩ := hm.grass
  obtain ⟨d1, d2, d3⟩ := hm.drinks
  have hfull := hb.full
  have hfed := hb.fed
  constructor
  · obtain ⟨p1, p2, p3, p4⟩ := cl_bd (most := b.full) (s := ad (cl b.full (ls c.water (waS b c.milks m))) m.drinks) (by omega)
    exact ⟨p1, cl_le (ad_le (cl_le (ls_le x2 w2)) d2), p4⟩
  · obtain ⟨p1, p2, p3, p4⟩ := cl_bd (most := b.fed) (s := ad (cl b.fed (ls c.fat (faS b m))) m.grass) (by omega)
    exact ⟨p1, cl_le (ad_le (cl_le (ls_le y2 f2)) g2), p4⟩
  · obtain ⟨p1, p2, p3, p4⟩ := cl_bd (most := 1000) (s := ls (ad c.sore (soS b m)) (healS b m, healS b m)) (by omega)
    exact ⟨p1, cl_le (ls_le (ad_le z2 s2) (Int.le_refl _)), p4⟩
end Go.Proofs.Ytafdcbdbllpcnaa
/- How many days like one an animal lasts: plain. -/
namespace Go.Proofs.Ytafdcbdbllpcnaa

/-- From day i on, so many days left, with the first day that isn't sure. -/
def lastsGo (b : Br) (m : Mr) : Nat → Int → Cm → Int → Int × Int
  | 0, _, _, lo => (lo, 60)
  | n + 1, i, c, lo => if diesS b c m = true then (mn lo i, i) else lastsGo b m n (i + 1) (eveC b c m) (if openS b c m = true then mn lo i else lo)
theorem lastsGo_dies {b : Br} {m : Mr} {n : Nat} {i : Int} {c : Cm} {lo : Int} (h : diesS b c m = true) : lastsGo b m (n + 1) i c lo = (mn lo i, i) := by simp [lastsGo, h]
theorem lastsGo_open {b : Br} {m : Mr} {n : Nat} {i : Int} {c : Cm} {lo : Int} (h : diesS b c m = false) (h2 : openS b c m = true) : lastsGo b m (n + 1) i c lo = lastsGo b m n (i + 1) (eveC b c m) (mn lo i) := by simp [lastsGo, h, h2]
theorem lastsGo_lives {b : Br} {m : Mr} {n : Nat} {i : Int} {c : Cm} {lo : Int} (h : diesS b c m = false) (h2 : openS b c m = false) : lastsGo b m (n + 1) i c lo = lastsGo b m n (i + 1) (eveC b c m) lo := by simp [lastsGo, h, h2]
end Go.Proofs.Ytafdcbdbllpcnaa
/- The days of an animal, plain: what it is like in the morning of each, what a day yields. -/
namespace Go.Proofs.Ytafdcbdbllpcnaa

def zm : Mr := ⟨0, 0, (0, 0), (0, 0), (0, 0)⟩
def zb : Br := ⟨0, 0, (0, 0), (0, 0), (0, 0), (0, 0), (0, 0), (0, 0), 0, (0, 0)⟩
def mdS (ms : List Mr) (k : Nat) : Mr := ms[k]?.getD zm
/-- An animal in the morning of day k, had it lived till then. -/
def mornC (b : Br) (c : Cm) (ms : List Mr) : Nat → Cm
  | 0 => c
  | k + 1 => eveC b (mornC b c ms k) (mdS ms k)
def dieK (b : Br) (c : Cm) (ms : List Mr) (k : Nat) : Bool := diesS b (mornC b c ms k) (mdS ms k)
def opnK (b : Br) (c : Cm) (ms : List Mr) (k : Nat) : Bool := openS b (mornC b c ms k) (mdS ms k)
def fatK (b : Br) (c : Cm) (ms : List Mr) (k : Nat) : Int := fateS b (mornC b c ms k) (mdS ms k)
/-- In the evening: nothing, if it died. -/
def eB (b : Br) (c : Cm) (m : Mr) : Br := if diesS b c m = true then zb else b
def eC (b : Br) (c : Cm) (m : Mr) : Cm := if diesS b c m = true then zc false else eveC b c m
/-- The worst fate of the first n days. -/
def fatN (b : Br) (c : Cm) (ms : List Mr) (n : Nat) : Int := if (List.range n).any (opnK b c ms) = true then 1 else 0

theorem mdS_ok {ms : List Mr} (h : ms.all okM = true) {k : Nat} (hk : k < ms.length) : okM (mdS ms k) = true := by
  rw [List.all_eq_true] at h
  simp only [mdS, List.getElem?_eq_getElem hk, Option.getD_some]
  exact h _ (List.getElem_mem hk)
theorem mdS_get {ms : List Mr} {k : Nat} (hk : k < ms.length) : ms[k] = mdS ms k := by simp [mdS, hk]
theorem mornC_bd {b : Br} {c : Cm} {ms : List Mr} (hb : BdB b) (hc : BdC b c) (h : ms.all okM = true) : ∀ k, k ≤ ms.length → BdC b (mornC b c ms k)
  | 0, _ => hc
  | k + 1, hk => eve_bd hb (mornC_bd hb hc h k (by omega)) (okM_bd (mdS_ok h (by omega)))
theorem fatK_dies {b : Br} {c : Cm} {ms : List Mr} {k : Nat} (h : dieK b c ms k = true) : fatK b c ms k = 2 := by
  unfold dieK at h; simp [fatK, fateS, h]
theorem fatK_lives {b : Br} {c : Cm} {ms : List Mr} {k : Nat} (h : dieK b c ms k = false) : fatK b c ms k = if opnK b c ms k = true then 1 else 0 := by
  unfold dieK at h; unfold fatK fateS opnK; rw [if_neg (by simp [h])]
theorem fatN_succ {b : Br} {c : Cm} {ms : List Mr} {k : Nat} (h : dieK b c ms k = false) : mx (fatN b c ms k) (fatK b c ms k) = fatN b c ms (k + 1) := by
  rw [fatK_lives h]
  unfold fatN
  rw [List.range_succ, List.any_append]
  simp only [List.any_cons, List.any_nil, Bool.or_false, Bool.or_eq_true]
  cases h1 : (List.range k).any (opnK b c ms) <;> cases h2 : opnK b c ms k <;> simp [mx]
theorem fatN_01 (b : Br) (c : Cm) (ms : List Mr) (k : Nat) : fatN b c ms k = 0 ∨ fatN b c ms k = 1 := by unfold fatN; split <;> simp

theorem fate2 {b : Br} {c : Cm} {m : Mr} : fateS b c m = 2 ↔ diesS b c m = true := by
  unfold fateS
  constructor
  · intro h
    cases hd : diesS b c m with
    | true => rfl
    | false => rw [hd, if_neg (by simp)] at h; split at h <;> omega
  · intro h; rw [if_pos h]
/-- So many days were yielded, and there were no more; so many, and the caller wanted no more. -/
def SDay (b : Br) (c : Cm) (ms : List Mr) (k : Nat) : Prop := k ≤ ms.length ∧ (∀ j, j + 1 < k → dieK b c ms j = false) ∧ (k = ms.length ∨ (0 < k ∧ dieK b c ms (k - 1) = true))
def SpDay (b : Br) (c : Cm) (ms : List Mr) (k : Nat) : Prop := k ≤ ms.length ∧ (∀ j, j + 1 < k → dieK b c ms j = false)
end Go.Proofs.Ytafdcbdbllpcnaa
/- The heaviest load that is borne, plain. -/
namespace Go.Proofs.Ytafdcbdbllpcnaa

/-- A day, and days, with another load. -/
def ldM (x : Int) (m : Mr) : Mr := ⟨m.hours, x, m.heat, m.grass, m.drinks⟩
def ldS (x : Int) (ms : List Mr) : List Mr := ms.map (ldM x)
theorem ldS_len (x : Int) (ms : List Mr) : (ldS x ms).length = ms.length := by simp [ldS]
theorem mdS_ld {x : Int} {ms : List Mr} {k : Nat} (hk : k < ms.length) : mdS (ldS x ms) k = ldM x (mdS ms k) := by
  simp [mdS, ldS, hk]
theorem ldM_ok {x : Int} {m : Mr} (h : okM m = true) (h1 : 0 ≤ x) (h2 : x ≤ 1000000) : okM (ldM x m) = true := by
  simp only [okM, inB, Bool.and_eq_true, decide_eq_true_eq] at h
  obtain ⟨⟨⟨⟨⟨a1, a2⟩, -, -⟩, a5⟩, a6⟩, a7⟩ := h
  simp [okM, ldM, inB, a1, a2, a5, a6, a7, h1, h2]
theorem ldS_ok {x : Int} {ms : List Mr} (h : ms.all okM = true) (h1 : 0 ≤ x) (h2 : x ≤ 1000000) : (ldS x ms).all okM = true := by
  rw [List.all_eq_true] at h ⊢
  intro m hm
  obtain ⟨m', hm', rfl⟩ := List.mem_map.1 hm
  exact ldM_ok (h m' hm') h1 h2
/-- On day k the animal lives for sure, and if it walks it carries the load for sure. -/
def okDay (b : Br) (c : Cm) (ms : List Mr) (x : Int) (k : Nat) : Bool := decide (fatK b c ms k = 0) && (decide (¬ 0 < (mdS ms k).hours) || decide (x ≤ (carS b (mornC b c ms k)).1))
def bearS (b : Br) (c : Cm) (ms : List Mr) (x : Int) : Bool := (List.range ms.length).all (okDay b c (ldS x ms) x)
theorem bearS_yes {b : Br} {c : Cm} {ms : List Mr} {x : Int} (h : ∀ k, k < ms.length → okDay b c (ldS x ms) x k = true) : bearS b c ms x = true := by
  unfold bearS
  rw [List.all_eq_true]
  exact fun k hk => h k (List.mem_range.1 hk)
theorem bearS_no {b : Br} {c : Cm} {ms : List Mr} {x : Int} {k : Nat} (hk : k < ms.length) (h : okDay b c (ldS x ms) x k = false) : bearS b c ms x = false := by
  unfold bearS
  rw [List.all_eq_false]
  exact ⟨k, List.mem_range.2 hk, by rw [h]; simp⟩
theorem okDay_yes {b : Br} {c : Cm} {ms : List Mr} {x : Int} {k : Nat} (h1 : fatK b c ms k = 0) (h2 : 0 < (mdS ms k).hours → x ≤ (carS b (mornC b c ms k)).1) : okDay b c ms x k = true := by
  unfold okDay
  simp only [Bool.and_eq_true, Bool.or_eq_true, decide_eq_true_eq]
  refine ⟨h1, ?_⟩
  by_cases h : 0 < (mdS ms k).hours
  · exact .inr (h2 h)
  · exact .inl h
theorem okDay_fate {b : Br} {c : Cm} {ms : List Mr} {x : Int} {k : Nat} (h1 : fatK b c ms k ≠ 0) : okDay b c ms x k = false := by
  unfold okDay
  simp [h1]
theorem okDay_load {b : Br} {c : Cm} {ms : List Mr} {x : Int} {k : Nat} (h1 : 0 < (mdS ms k).hours) (h2 : (carS b (mornC b c ms k)).1 < x) : okDay b c ms x k = false := by
  unfold okDay
  have h3 : ¬ x ≤ (carS b (mornC b c ms k)).1 := by omega
  simp [h1, h3]
theorem okDay_lives {b : Br} {c : Cm} {ms : List Mr} {x : Int} {k : Nat} (h : okDay b c ms x k = true) : dieK b c ms k = false := by
  unfold okDay at h
  simp only [Bool.and_eq_true, decide_eq_true_eq] at h
  cases hd : dieK b c ms k with
  | false => rfl
  | true => have := fatK_dies hd; omega

/-- The greatest number from lo to hi for which p holds, by halves. -/
def binGo (p : Int → Bool) : Nat → Int → Int → Int
  | 0, lo, _ => lo
  | n + 1, lo, hi => if lo < hi then (if p ((lo + hi + 1) / 2) = true then binGo p n ((lo + hi + 1) / 2) hi else binGo p n lo ((lo + hi + 1) / 2 - 1)) else lo
theorem binGo_yes {p : Int → Bool} {n : Nat} {lo hi m : Int} (h : lo < hi) (hm : m = (lo + hi + 1) / 2) (hp : p m = true) : binGo p (n + 1) lo hi = binGo p n m hi := by
  subst hm; rw [binGo, if_pos h, if_pos hp]
theorem binGo_no {p : Int → Bool} {n : Nat} {lo hi m : Int} (h : lo < hi) (hm : m = (lo + hi + 1) / 2) (hp : p m = false) : binGo p (n + 1) lo hi = binGo p n lo (m - 1) := by
  subst hm; rw [binGo, if_pos h, if_neg (by rw [hp]; simp)]
theorem binGo_end {p : Int → Bool} {n : Nat} {lo hi : Int} (h : ¬ lo < hi) : binGo p n lo hi = lo := by
  cases n with
  | zero => rfl
  | succ n => rw [binGo, if_neg h]
/-- The heaviest load, or the error. -/
def heaS (b : Br) (c : Cm) (ms : List Mr) (e : Int) : Int × Int := if e = 0 then (if bearS b c ms 0 = true then (binGo (bearS b c ms) 1000000 0 1000000, 0) else (0, 13)) else (0, e)
end Go.Proofs.Ytafdcbdbllpcnaa
/- How many days like one an animal lasts, day by day. -/
namespace Go.Proofs.Ytafdcbdbllpcnaa

/-- The ends of the span behind the first k days. -/
def loK (b : Br) (c : Cm) (ms : List Mr) : Nat → Int
  | 0 => 60
  | k + 1 => if fatK b c ms k = 0 then loK b c ms k else mn (loK b c ms k) k
def hiK (b : Br) (c : Cm) (ms : List Mr) : Nat → Int
  | 0 => 60
  | k + 1 => if fatK b c ms k = 2 then (k : Int) else hiK b c ms k

theorem loK_zero {b : Br} {c : Cm} {ms : List Mr} {k : Nat} (h : fatK b c ms k = 0) : loK b c ms (k + 1) = loK b c ms k := by rw [loK, if_pos h]
theorem loK_more {b : Br} {c : Cm} {ms : List Mr} {k : Nat} (h : fatK b c ms k ≠ 0) : loK b c ms (k + 1) = mn (loK b c ms k) k := by rw [loK, if_neg h]
theorem hiK_two {b : Br} {c : Cm} {ms : List Mr} {k : Nat} (h : fatK b c ms k = 2) : hiK b c ms (k + 1) = (k : Int) := by rw [hiK, if_pos h]
theorem hiK_less {b : Br} {c : Cm} {ms : List Mr} {k : Nat} (h : fatK b c ms k ≠ 2) : hiK b c ms (k + 1) = hiK b c ms k := by rw [hiK, if_neg h]
theorem fat012 (b : Br) (c : Cm) (ms : List Mr) (k : Nat) : fatK b c ms k = 0 ∨ fatK b c ms k = 1 ∨ fatK b c ms k = 2 := by
  unfold fatK fateS
  split
  · exact .inr (.inr rfl)
  · split
    · exact .inr (.inl rfl)
    · exact .inl rfl
theorem hiK_alive {b : Br} {c : Cm} {ms : List Mr} : ∀ k, (∀ j, j < k → dieK b c ms j = false) → hiK b c ms k = 60
  | 0, _ => rfl
  | k + 1, h => by
    have h1 := h k (by omega)
    unfold hiK
    rw [if_neg, hiK_alive k (fun j hj => h j (by omega))]
    intro h2
    have := fate2.1 h2
    unfold dieK at h1
    rw [h1] at this; cases this

theorem lasts_from (b : Br) (c : Cm) (m : Mr) (ms : List Mr) (hlen : ms.length = 60) (hget : ∀ k, k < 60 → mdS ms k = m) : ∀ (n k : Nat), k + n = 60 → (∀ j, j < k → dieK b c ms j = false) → ∀ K, SDay b c ms K → k ≤ K →
    lastsGo b m n (k : Int) (mornC b c ms k) (loK b c ms k) = (loK b c ms K, hiK b c ms K)
  | 0, k, hk, hal, K, ⟨hK, hd, he⟩, hkK => by
    obtain rfl : K = k := by omega
    rw [hiK_alive K hal]
    rfl
  | n + 1, k, hk, hal, K, hS, hkK => by
    obtain ⟨hK, hd, he⟩ := hS
    have hm := hget k (by omega)
    cases hdk : dieK b c ms k with
    | true =>
      have hKk : K = k + 1 := by
        rcases Nat.lt_trichotomy K (k + 1) with h | h | h
        · exfalso
          obtain rfl : K = k := by omega
          rcases he with he | ⟨he1, he2⟩
          · omega
          · rw [hal (K - 1) (by omega)] at he2; cases he2
        · exact h
        · rw [hd k h] at hdk; cases hdk
      subst hKk
      have hf := fatK_dies hdk
      have hdie : diesS b (mornC b c ms k) m = true := by unfold dieK at hdk; rw [hm] at hdk; exact hdk
      rw [lastsGo_dies hdie]
      rw [loK_more (by omega), hiK_two hf]
    | false =>
      have hf := fatK_lives hdk
      have hdie : diesS b (mornC b c ms k) m = false := by unfold dieK at hdk; rw [hm] at hdk; exact hdk
      have hlt : k + 1 ≤ K := by
        rcases Nat.lt_or_ge k K with h | h
        · exact h
        · exfalso
          obtain rfl : K = k := by omega
          rcases he with he | ⟨he1, he2⟩
          · omega
          · rw [hal (K - 1) (by omega)] at he2; cases he2
      have ih := lasts_from b c m ms hlen hget n (k + 1) (by omega) (fun j hj => by
        rcases Nat.lt_or_ge j k with h | h
        · exact hal j h
        · obtain rfl : j = k := by omega
          exact hdk) K ⟨hK, hd, he⟩ hlt
      have em : mornC b c ms (k + 1) = eveC b (mornC b c ms k) m := by rw [mornC, hm]
      have ek : ((k + 1 : Nat) : Int) = (k : Int) + 1 := by omega
      rw [em, ek] at ih
      cases ho : openS b (mornC b c ms k) m with
      | true =>
        have h1 : fatK b c ms k = 1 := by rw [hf]; unfold opnK; rw [hm, ho]; rfl
        have h2 : loK b c ms (k + 1) = mn (loK b c ms k) k := loK_more (by omega)
        rw [h2] at ih
        rw [lastsGo_open hdie ho]
        exact ih
      | false =>
        have h1 : fatK b c ms k = 0 := by rw [hf]; unfold opnK; rw [hm, ho]; rfl
        have h2 : loK b c ms (k + 1) = loK b c ms k := loK_zero h1
        rw [h2] at ih
        rw [lastsGo_lives hdie ho]
        exact ih
theorem lasts_eq {b : Br} {c : Cm} {m : Mr} {ms : List Mr} (hlen : ms.length = 60) (hget : ∀ k, k < 60 → mdS ms k = m) {K : Nat} (h : SDay b c ms K) : lastsGo b m 60 0 c 60 = (loK b c ms K, hiK b c ms K) :=
  lasts_from b c m ms hlen hget 60 0 rfl (fun j hj => by omega) K h (by omega)
end Go.Proofs.Ytafdcbdbllpcnaa
