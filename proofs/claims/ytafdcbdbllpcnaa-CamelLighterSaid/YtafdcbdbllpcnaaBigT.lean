/- Plain functions: what layer 1 (camel) of the document says of a breed, an animal and a day. No program is named here. -/
import Derived.WalkKit
import Derived.WalkLawsBesides
import Derived.Handy
import Derived.Laws.Rows
import Derived.Laws.Tables
import Derived.Test.YtafdcbdbllpcnaaProg
import Derived.Outline
import Derived.Lib.Hide
import Derived.RegionTactic
import Derived.BigRegion
import Derived.Deep.Light
set_option linter.unusedVariables false
set_option linter.unusedSimpArgs false
namespace Go.Proofs.Ytafdcbdbllpcnaa

/-- A breed, an animal, a day: numbers. -/
structure Br where
  full : Int
  fed : Int
  rest : Int × Int
  heat : Int × Int
  toil : Int × Int
  burn : Int × Int
  rub : Int × Int
  milk : Int × Int
  heal : Int
  strong : Int × Int
structure Cm where
  water : Int × Int
  fat : Int × Int
  sore : Int × Int
  milks : Bool
structure Mr where
  hours : Int
  load : Int
  heat : Int × Int
  grass : Int × Int
  drinks : Int × Int

def okSpan (most : Int) (s : Int × Int) : Bool := decide (0 ≤ s.1) && decide (s.1 ≤ s.2) && decide (s.2 ≤ most)

def okB1 (b : Br) : Bool := decide (1 ≤ b.full) && decide (b.full ≤ 1000000) && decide (1 ≤ b.fed) && decide (b.fed ≤ 1000000)
def okB2 (b : Br) : Bool := [b.rest, b.heat, b.toil, b.burn, b.rub, b.milk].all (okSpan 100000)
def okB3 (b : Br) : Bool := decide (0 ≤ b.heal) && decide (b.heal ≤ 1000)
def okB4 (b : Br) : Bool := [b.strong].all (okSpan 1000000)
def okB (b : Br) : Bool := okB1 b && okB2 b && okB3 b && okB4 b
def inB (lo hi n : Int) : Bool := decide (lo ≤ n) && decide (n ≤ hi)
def refB (b : Br) : Bool := inB 1 1000000 b.full && inB 1 1000000 b.fed && inB 0 1000 b.heal && okSpan 1000000 b.strong &&
  okSpan 100000 b.rest && okSpan 100000 b.heat && okSpan 100000 b.toil && okSpan 100000 b.burn && okSpan 100000 b.rub && okSpan 100000 b.milk
theorem refB_eq (b : Br) : refB b = okB b := by
  simp only [refB, okB, okB1, okB2, okB3, okB4, inB, List.all_cons, List.all_nil, Bool.and_true]
  rw [Bool.eq_iff_iff]
  simp only [Bool.and_eq_true]
  constructor
  · rintro ⟨⟨⟨⟨⟨⟨⟨⟨⟨⟨a1, a2⟩, a3, a4⟩, a5, a6⟩, a7⟩, a8⟩, a9⟩, a10⟩, a11⟩, a12⟩, a13⟩
    exact ⟨⟨⟨⟨⟨⟨a1, a2⟩, a3⟩, a4⟩, a8, a9, a10, a11, a12, a13⟩, a5, a6⟩, a7⟩
  · rintro ⟨⟨⟨⟨⟨⟨a1, a2⟩, a3⟩, a4⟩, a8, a9, a10, a11, a12, a13⟩, a5, a6⟩, a7⟩
    exact ⟨⟨⟨⟨⟨⟨⟨⟨⟨⟨a1, a2⟩, a3, a4⟩, a5, a6⟩, a7⟩, a8⟩, a9⟩, a10⟩, a11⟩, a12⟩, a13⟩
def okC (b : Br) (c : Cm) : Bool := okSpan b.full c.water && okSpan b.fed c.fat && okSpan 1000 c.sore
def okM (m : Mr) : Bool := inB 0 24 m.hours && inB 0 1000000 m.load && okSpan 60 m.heat && okSpan 1000000 m.grass && okSpan 1000000 m.drinks

/-- The product of spans, and their sum. -/
def prodS : List (Int × Int) → Int × Int → Int × Int
  | [], p => p
  | s :: l, p => prodS l (p.1 * s.1, p.2 * s.2)
def sumS : List (Int × Int) → Int × Int → Int × Int
  | [], p => p
  | s :: l, p => sumS l (p.1 + s.1, p.2 + s.2)
def scaledS (d : Int) (l : List (Int × Int)) : Int × Int := ((prodS l (1, 1)).1 / d, ((prodS l (1, 1)).2 + d - 1) / d)

def mn (x y : Int) : Int := if y < x then y else x
def mx (x y : Int) : Int := if y > x then y else x
/-- How fit a valid animal is; what it can carry. -/
def fitS (b : Br) (c : Cm) : Int × Int :=
  (mn (mn (mn 1000 (2000 * c.water.1 / b.full)) (2000 * c.fat.1 / b.fed)) (1000 - c.sore.2),
   mn (mn (mn 1000 ((2000 * c.water.2 + b.full - 1) / b.full)) ((2000 * c.fat.2 + b.fed - 1) / b.fed)) (1000 - c.sore.1))
def carS (b : Br) (c : Cm) : Int × Int := (b.strong.1 * (fitS b c).1 / 1000, (b.strong.2 * (fitS b c).2 + 1000 - 1) / 1000)
theorem okSpan_bd {m : Int} {s : Int × Int} (h : okSpan m s = true) : 0 ≤ s.1 ∧ s.1 ≤ s.2 ∧ s.2 ≤ m := by
  simp only [okSpan, Bool.and_eq_true, decide_eq_true_eq] at h
  exact ⟨h.1.1, h.1.2, h.2⟩
/-- Bounds of a valid breed's numbers. -/
structure BdB (b : Br) : Prop where
  full : 1 ≤ b.full ∧ b.full ≤ 1000000
  fed : 1 ≤ b.fed ∧ b.fed ≤ 1000000
  rest : 0 ≤ b.rest.1 ∧ b.rest.1 ≤ b.rest.2 ∧ b.rest.2 ≤ 100000
  heat : 0 ≤ b.heat.1 ∧ b.heat.1 ≤ b.heat.2 ∧ b.heat.2 ≤ 100000
  toil : 0 ≤ b.toil.1 ∧ b.toil.1 ≤ b.toil.2 ∧ b.toil.2 ≤ 100000
  burn : 0 ≤ b.burn.1 ∧ b.burn.1 ≤ b.burn.2 ∧ b.burn.2 ≤ 100000
  rub : 0 ≤ b.rub.1 ∧ b.rub.1 ≤ b.rub.2 ∧ b.rub.2 ≤ 100000
  milk : 0 ≤ b.milk.1 ∧ b.milk.1 ≤ b.milk.2 ∧ b.milk.2 ≤ 100000
  heal : 0 ≤ b.heal ∧ b.heal ≤ 1000
  strong : 0 ≤ b.strong.1 ∧ b.strong.1 ≤ b.strong.2 ∧ b.strong.2 ≤ 1000000
theorem okB_bd {b : Br} (h : okB b = true) : BdB b := by
  simp only [okB, okB1, okB2, okB3, okB4, List.all_cons, List.all_nil, Bool.and_true, Bool.and_eq_true, decide_eq_true_eq] at h
  obtain ⟨⟨⟨⟨⟨⟨a1, a2⟩, a3⟩, a4⟩, a8, a9, a10, a11, a12, a13⟩, a5, a6⟩, a7⟩ := h
  exact ⟨⟨a1, a2⟩, ⟨a3, a4⟩, okSpan_bd a8, okSpan_bd a9, okSpan_bd a10, okSpan_bd a11, okSpan_bd a12, okSpan_bd a13, ⟨a5, a6⟩, okSpan_bd a7⟩
structure BdC (b : Br) (c : Cm) : Prop where
  water : 0 ≤ c.water.1 ∧ c.water.1 ≤ c.water.2 ∧ c.water.2 ≤ b.full
  fat : 0 ≤ c.fat.1 ∧ c.fat.1 ≤ c.fat.2 ∧ c.fat.2 ≤ b.fed
  sore : 0 ≤ c.sore.1 ∧ c.sore.1 ≤ c.sore.2 ∧ c.sore.2 ≤ 1000
theorem okC_bd {b : Br} {c : Cm} (h : okC b c = true) : BdC b c := by
  simp only [okC, Bool.and_eq_true] at h
  exact ⟨okSpan_bd h.1.1, okSpan_bd h.1.2, okSpan_bd h.2⟩
structure BdM (m : Mr) : Prop where
  hours : 0 ≤ m.hours ∧ m.hours ≤ 24
  load : 0 ≤ m.load ∧ m.load ≤ 1000000
  heat : 0 ≤ m.heat.1 ∧ m.heat.1 ≤ m.heat.2 ∧ m.heat.2 ≤ 60
  grass : 0 ≤ m.grass.1 ∧ m.grass.1 ≤ m.grass.2 ∧ m.grass.2 ≤ 1000000
  drinks : 0 ≤ m.drinks.1 ∧ m.drinks.1 ≤ m.drinks.2 ∧ m.drinks.2 ≤ 1000000
theorem okM_bd {m : Mr} (h : okM m = true) : BdM m := by
  simp only [okM, inB, Bool.and_eq_true, decide_eq_true_eq] at h
  obtain ⟨⟨⟨⟨⟨a1, a2⟩, a3, a4⟩, a5⟩, a6⟩, a7⟩ := h
  exact ⟨⟨a1, a2⟩, ⟨a3, a4⟩, okSpan_bd a5, okSpan_bd a6, okSpan_bd a7⟩

theorem mul_le {x y a b : Int} (hx : 0 ≤ x) (hy : 0 ≤ y) (ha : x ≤ a) (hb : y ≤ b) : 0 ≤ x * y ∧ x * y ≤ a * b :=
  ⟨Int.mul_nonneg hx hy, Int.mul_le_mul ha hb hy (Int.le_trans hx ha)⟩

theorem fitS_bd {b : Br} {c : Cm} (hb : BdB b) (hc : BdC b c) : 0 ≤ (fitS b c).1 ∧ (fitS b c).1 ≤ 1000 ∧ 0 ≤ (fitS b c).2 ∧ (fitS b c).2 ≤ 1000 := by
  have := hb.full
  have := hb.fed
  have := hc.water
  have := hc.fat
  have := hc.sore
  have q1 : 0 ≤ 2000 * c.water.1 / b.full := Int.ediv_nonneg (by omega) (by omega)
  have q2 : 0 ≤ 2000 * c.fat.1 / b.fed := Int.ediv_nonneg (by omega) (by omega)
  have q3 : 0 ≤ (2000 * c.water.2 + b.full - 1) / b.full := Int.ediv_nonneg (by omega) (by omega)
  have q4 : 0 ≤ (2000 * c.fat.2 + b.fed - 1) / b.fed := Int.ediv_nonneg (by omega) (by omega)
  simp only [fitS, mn]
  generalize 2000 * c.water.1 / b.full = x1 at *
  generalize 2000 * c.fat.1 / b.fed = x2 at *
  generalize (2000 * c.water.2 + b.full - 1) / b.full = x3 at *
  generalize (2000 * c.fat.2 + b.fed - 1) / b.fed = x4 at *
  refine ⟨?_, ?_, ?_, ?_⟩ <;> (repeat' split) <;> omega
end Go.Proofs.Ytafdcbdbllpcnaa
/- Plain functions, continued: what a day costs. -/
namespace Go.Proofs.Ytafdcbdbllpcnaa

/-- A product divided, rounded outwards; a sum of spans. -/
def sc (d : Int) (s t : Int × Int) : Int × Int := (s.1 * t.1 / d, (s.2 * t.2 + d - 1) / d)
def ad (s t : Int × Int) : Int × Int := (s.1 + t.1, s.2 + t.2)
/-- What a day is like: degrees above 20, the burden, the load that rubs. -/
def hsS (m : Mr) : Int × Int := (mx 0 (m.heat.1 - 20), mx 0 (m.heat.2 - 20))
def buS (m : Mr) : Int × Int := (m.hours * (100000 + m.load), m.hours * (100000 + m.load))
def ruS (m : Mr) : Int × Int := (m.hours * m.load, m.hours * m.load)
/-- What a day costs in water (without milk, and with it) and in fat, and how much sorer it makes. -/
def wa0S (b : Br) (m : Mr) : Int × Int := ad (ad b.rest (sc 1 b.heat (hsS m))) (sc 100000 b.toil (buS m))
def waS (b : Br) (k : Bool) (m : Mr) : Int × Int := if k then ad (wa0S b m) b.milk else wa0S b m
def faS (b : Br) (m : Mr) : Int × Int := sc 100000 b.burn (buS m)
def soS (b : Br) (m : Mr) : Int × Int := sc 1000000 b.rub (ruS m)

theorem hsS_bd {m : Mr} (hm : BdM m) : 0 ≤ (hsS m).1 ∧ (hsS m).1 ≤ 40 ∧ 0 ≤ (hsS m).2 ∧ (hsS m).2 ≤ 40 := by
  have := hm.heat
  simp only [hsS, mx]
  refine ⟨?_, ?_, ?_, ?_⟩ <;> split <;> omega
theorem buS_bd {m : Mr} (hm : BdM m) : 0 ≤ (buS m).1 ∧ (buS m).1 ≤ 26400000 ∧ 0 ≤ (buS m).2 ∧ (buS m).2 ≤ 26400000 := by
  obtain ⟨h1, h2⟩ := hm.hours
  obtain ⟨l1, l2⟩ := hm.load
  have := mul_le h1 (by omega : 0 ≤ 100000 + m.load) h2 (by omega : 100000 + m.load ≤ 1100000)
  simp only [buS]
  omega
theorem ruS_bd {m : Mr} (hm : BdM m) : 0 ≤ (ruS m).1 ∧ (ruS m).1 ≤ 24000000 ∧ 0 ≤ (ruS m).2 ∧ (ruS m).2 ≤ 24000000 := by
  obtain ⟨h1, h2⟩ := hm.hours
  obtain ⟨l1, l2⟩ := hm.load
  have := mul_le h1 l1 h2 l2
  simp only [ruS]
  omega
theorem sc_bd {d : Int} {s t : Int × Int} {x y : Int} (hd : 1 ≤ d) (s1 : 0 ≤ s.1) (s2 : s.1 ≤ s.2) (s3 : s.2 ≤ x) (t1 : 0 ≤ t.1) (t2 : t.1 ≤ y) (t3 : 0 ≤ t.2) (t4 : t.2 ≤ y) :
    0 ≤ s.1 * t.1 ∧ s.1 * t.1 ≤ x * y ∧ 0 ≤ s.2 * t.2 ∧ s.2 * t.2 ≤ x * y ∧ 0 ≤ (sc d s t).1 ∧ (sc d s t).1 ≤ x * y ∧ 0 ≤ (sc d s t).2 ∧ (sc d s t).2 ≤ x * y := by
  obtain ⟨a1, a2⟩ := mul_le s1 t1 (Int.le_trans s2 s3) t2
  obtain ⟨a3, a4⟩ := mul_le (Int.le_trans s1 s2) t3 s3 t4
  have b1 : 0 ≤ s.1 * t.1 / d := Int.ediv_nonneg a1 (by omega)
  have b2 : s.1 * t.1 / d ≤ s.1 * t.1 := Int.ediv_le_self _ a1
  have b3 : 0 ≤ (s.2 * t.2 + d - 1) / d := Int.ediv_nonneg (by omega) (by omega)
  have b4 : (s.2 * t.2 + d - 1) / d ≤ s.2 * t.2 := by
    by_cases h : s.2 * t.2 = 0
    · rw [h]
      have : (0 + d - 1) / d = 0 := Int.ediv_eq_zero_of_lt (by omega) (by omega)
      omega
    · refine Int.le_of_lt_add_one ?_
      rw [Int.ediv_lt_iff_lt_mul (by omega)]
      have : 1 * d ≤ s.2 * t.2 * d := Int.mul_le_mul_of_nonneg_right (by omega) (by omega)
      rw [Int.add_mul]
      have h5 : s.2 * t.2 * 1 ≤ s.2 * t.2 * d := Int.mul_le_mul_of_nonneg_left (by omega) (by omega)
      omega
  simp only [sc]
  exact ⟨a1, a2, a3, a4, b1, by omega, b3, by omega⟩
/-- The cost in water as the reference adds it up. -/
def wa0R (b : Br) (m : Mr) : Int × Int := (b.rest.1 + b.heat.1 * (hsS m).1 + b.toil.1 * (buS m).1 / 100000, b.rest.2 + b.heat.2 * (hsS m).2 + (b.toil.2 * (buS m).2 + 100000 - 1) / 100000)
theorem wa0R_eq (b : Br) (m : Mr) : wa0S b m = wa0R b m := by
  simp only [wa0S, wa0R, ad, sc, Int.ediv_one]
  rw [Int.add_sub_cancel]
/-- The error of a day's cost, and the cost. -/
def chkM (b : Br) (m : Mr) : Int := if okB b = true then (if okM m = true then 0 else 12) else 10
def coW (b : Br) (k : Bool) (m : Mr) : Int × Int := if chkM b m = 0 then waS b k m else (0, 0)
def coF (b : Br) (m : Mr) : Int × Int := if chkM b m = 0 then faS b m else (0, 0)
/-- An animal without water, fat and sores. -/
def zc (k : Bool) : Cm := ⟨(0, 0), (0, 0), (0, 0), k⟩
end Go.Proofs.Ytafdcbdbllpcnaa
/- Plain functions, continued: an animal in the evening of a day. -/
namespace Go.Proofs.Ytafdcbdbllpcnaa

/-- A span moved into 0 to a number; what is left of one; what an animal has after it lost some and got some. -/
def cl (most : Int) (s : Int × Int) : Int × Int := (mn (mx s.1 0) most, mn (mx s.2 0) most)
def ls (s t : Int × Int) : Int × Int := (s.1 - t.2, s.2 - t.1)
def refS (most : Int) (h k g : Int × Int) : Int × Int := cl most (ad (cl most (ls h k)) g)
def healS (b : Br) (m : Mr) : Int := if m.hours = 0 then b.heal else 0
/-- An animal in the evening of a day; its fate. -/
def soreS (b : Br) (c : Cm) (m : Mr) : Int × Int := cl 1000 (ls (ad c.sore (soS b m)) (healS b m, healS b m))
def eveC (b : Br) (c : Cm) (m : Mr) : Cm := ⟨refS b.full c.water (waS b c.milks m) m.drinks, refS b.fed c.fat (faS b m) m.grass, soreS b c m, c.milks⟩
def diesS (b : Br) (c : Cm) (m : Mr) : Bool := decide (c.water.2 < (waS b c.milks m).1) || decide (c.fat.2 < (faS b m).1)
def openS (b : Br) (c : Cm) (m : Mr) : Bool := decide (c.water.1 < (waS b c.milks m).2) || decide (c.fat.1 < (faS b m).2)
def fateS (b : Br) (c : Cm) (m : Mr) : Int := if diesS b c m = true then 2 else if openS b c m = true then 1 else 0

theorem cl_bd {most : Int} {s : Int × Int} (h : 0 ≤ most) : 0 ≤ (cl most s).1 ∧ (cl most s).1 ≤ most ∧ 0 ≤ (cl most s).2 ∧ (cl most s).2 ≤ most := by
  simp only [cl, mn, mx]
  refine ⟨?_, ?_, ?_, ?_⟩ <;> (repeat' split) <;> omega
theorem cl_le {most : Int} {s : Int × Int} (h : s.1 ≤ s.2) : (cl most s).1 ≤ (cl most s).2 := by
  simp only [cl, mn, mx]
  (repeat' split) <;> omega
theorem ad_le {s t : Int × Int} (h : s.1 ≤ s.2) (k : t.1 ≤ t.2) : (ad s t).1 ≤ (ad s t).2 := by simp only [ad]; omega
theorem ls_le {s t : Int × Int} (h : s.1 ≤ s.2) (k : t.1 ≤ t.2) : (ls s t).1 ≤ (ls s t).2 := by simp only [ls]; omega
theorem sc_le {d : Int} {s t : Int × Int} (hd : 1 ≤ d) (s1 : 0 ≤ s.1) (s2 : s.1 ≤ s.2) (t1 : 0 ≤ t.1) (t2 : t.1 ≤ t.2) : (sc d s t).1 ≤ (sc d s t).2 := by
  have h := Int.mul_le_mul s2 t2 t1 (by omega)
  exact Int.ediv_le_ediv (by omega) (by omega)
theorem hsS_le {m : Mr} (hm : BdM m) : (hsS m).1 ≤ (hsS m).2 := by
  have := hm.heat
  simp only [hsS, mx]
  (repeat' split) <;> omega
theorem waS_bd {b : Br} {m : Mr} (k : Bool) (hb : BdB b) (hm : BdM m) : 0 ≤ (waS b k m).1 ∧ (waS b k m).1 ≤ (waS b k m).2 ∧ (waS b k m).2 ≤ 100000000000000 := by
  obtain ⟨h1, h2, h3, h4⟩ := hsS_bd hm
  obtain ⟨u1, u2, u3, u4⟩ := buS_bd hm
  obtain ⟨a1, a2, a3⟩ := hb.rest
  obtain ⟨b1, b2, b3⟩ := hb.heat
  obtain ⟨c1, c2, c3⟩ := hb.toil
  obtain ⟨f1, f2, f3⟩ := hb.milk
  obtain ⟨-, -, -, -, x1, x2, x3, x4⟩ := sc_bd (d := 1) (by omega) b1 b2 b3 h1 h2 h3 h4
  obtain ⟨-, -, -, -, y1, y2, y3, y4⟩ := sc_bd (d := 100000) (by omega) c1 c2 c3 u1 u2 u3 u4
  have l1 := sc_le (d := 1) (by omega) b1 b2 h1 (hsS_le hm)
  have l2 := sc_le (d := 100000) (s := b.toil) (t := buS m) (by omega) c1 c2 u1 (Int.le_refl _)
  cases k <;> simp only [waS, wa0S, ad, if_true, Bool.false_eq_true, if_false] <;> omega
theorem faS_bd {b : Br} {m : Mr} (hb : BdB b) (hm : BdM m) : 0 ≤ (faS b m).1 ∧ (faS b m).1 ≤ (faS b m).2 ∧ (faS b m).2 ≤ 100000000000000 := by
  obtain ⟨u1, u2, u3, u4⟩ := buS_bd hm
  obtain ⟨d1, d2, d3⟩ := hb.burn
  obtain ⟨-, -, -, -, y1, y2, y3, y4⟩ := sc_bd (d := 100000) (by omega) d1 d2 d3 u1 u2 u3 u4
  have l2 := sc_le (d := 100000) (s := b.burn) (t := buS m) (by omega) d1 d2 u1 (Int.le_refl _)
  simp only [faS]
  omega
theorem soS_bd {b : Br} {m : Mr} (hb : BdB b) (hm : BdM m) : 0 ≤ (soS b m).1 ∧ (soS b m).1 ≤ (soS b m).2 ∧ (soS b m).2 ≤ 100000000000000 := by
  obtain ⟨u1, u2, u3, u4⟩ := ruS_bd hm
  obtain ⟨d1, d2, d3⟩ := hb.rub
  obtain ⟨-, -, -, -, y1, y2, y3, y4⟩ := sc_bd (d := 1000000) (by omega) d1 d2 d3 u1 u2 u3 u4
  have l2 := sc_le (d := 1000000) (s := b.rub) (t := ruS m) (by omega) d1 d2 u1 (Int.le_refl _)
  simp only [soS]
  omega
theorem healS_bd {b : Br} {m : Mr} (hb : BdB b) : 0 ≤ healS b m ∧ healS b m ≤ 1000 := by
  have := hb.heal
  unfold healS
  split <;> omega
/-- A valid animal is valid in the evening of a valid day on which it doesn't die. -/
theorem eve_bd {b : Br} {c : Cm} {m : Mr} (hb : BdB b) (hc : BdC b c) (hm : BdM m) : BdC b (eveC b c m) := by
  obtain ⟨w1, w2, w3⟩ := waS_bd c.milks hb hm
  obtain ⟨f1, f2, f3⟩ := faS_bd hb hm
  obtain ⟨s1, s2, s3⟩ := soS_bd hb hm
  obtain ⟨x1, x2, x3⟩ := hc.water
  obtain ⟨y1, y2, y3⟩ := hc.fat
  obtain ⟨z1, z2, z3⟩ := hc.sore
  obtain ⟨g1, g2, g3⟩ := hm.grass
  obtain ⟨d1, d2, d3⟩ := hm.drinks
  have hfull := hb.full
  have hfed := hb.fed
  constructor
  · obtain ⟨p1, p2, p3, p4⟩ := cl_bd (most := b.full) (s := ad (cl b.full (ls c.water (waS b c.milks m))) m.drinks) (by omega)
    exact ⟨p1, cl_le (ad_le (cl_le (ls_le x2 w2)) d2), p4⟩
  · obtain ⟨p1, p2, p3, p4⟩ := cl_bd (most := b.fed) (s := ad (cl b.fed (ls c.fat (faS b m))) m.grass) (by omega)
    exact ⟨p1, cl_le (ad_le (cl_le (ls_le y2 f2)) g2), p4⟩
  · obtain ⟨p1, p2, p3, p4⟩ := cl_bd (most := 1000) (s := ls (ad c.sore (soS b m)) (healS b m, healS b m)) (by omega)
    exact ⟨p1, cl_le (ls_le (ad_le z2 s2) (Int.le_refl _)), p4⟩
end Go.Proofs.Ytafdcbdbllpcnaa
/- Mange, plain: who is sick on a day, and two ways to reckon it. No program is named here. -/
namespace Go.Proofs.Ytafdcbdbllpcnaa

/-- A meeting. -/
structure Mt where
  a : Int
  b : Int
  day : Int
  close : Bool
/-- i may have it from j, or j from i. -/
def Mt.links (x : Mt) (i j : Int) : Prop := (x.a = i ∧ x.b = j) ∨ (x.b = i ∧ x.a = j)
def okMt (n : Int) (x : Mt) : Prop := 0 ≤ x.a ∧ x.a < n ∧ 0 ≤ x.b ∧ x.b < n ∧ x.a ≠ x.b ∧ 0 ≤ x.day ∧ x.day ≤ 100000
/-- i is sick from day t on, if it is passed on at the meetings E, w days behind each. -/
inductive Sk (first : List Int) (E : Mt → Prop) (w : Int) : Int → Int → Prop
  | start {i : Int} : i ∈ first → Sk first E w i 0
  | caught {i j s : Int} {x : Mt} : Sk first E w i s → E x → x.links i j → s ≤ x.day → Sk first E w j (x.day + w)
/-- It is sick on day d. -/
def SkBy (first : List Int) (E : Mt → Prop) (w d i : Int) : Prop := ∃ t, Sk first E w i t ∧ t ≤ d

theorem Sk.early {first : List Int} {E F : Mt → Prop} {w v i t : Int} (hE : ∀ x, F x → E x) (hw : w ≤ v) (h : Sk first F v i t) : ∃ s, Sk first E w i s ∧ s ≤ t := by
  induction h with
  | start h => exact ⟨0, .start h, Int.le_refl _⟩
  | caught h hx hl hs ih =>
    obtain ⟨s, h1, h2⟩ := ih
    exact ⟨_, .caught h1 (hE _ hx) hl (by omega), by omega⟩
theorem SkBy.early {first : List Int} {E F : Mt → Prop} {w v d i : Int} (hE : ∀ x, F x → E x) (hw : w ≤ v) (h : SkBy first F v d i) : SkBy first E w d i := by
  obtain ⟨t, h1, h2⟩ := h
  obtain ⟨s, h3, h4⟩ := h1.early hE hw
  exact ⟨s, h3, by omega⟩
theorem Sk.pos {first : List Int} {E : Mt → Prop} {w i t : Int} (hd : ∀ x, E x → 0 ≤ x.day) (hw : 1 ≤ w) (h : Sk first E w i t) : 0 ≤ t := by
  induction h with
  | start h => exact Int.le_refl _
  | caught h hx hl hs ih => have := hd _ hx; omega
theorem Sk.rng {first : List Int} {E : Mt → Prop} {n w i t : Int} (hf : ∀ i ∈ first, 0 ≤ i ∧ i < n) (ho : ∀ x, E x → okMt n x) (h : Sk first E w i t) : 0 ≤ i ∧ i < n := by
  cases h with
  | start h => exact hf _ h
  | caught h hx hl hs =>
    obtain ⟨h1, h2, h3, h4, -⟩ := ho _ hx
    rcases hl with ⟨-, rfl⟩ | ⟨-, rfl⟩
    · exact ⟨h3, h4⟩
    · exact ⟨h1, h2⟩

/-- What is reckoned is true: nobody is told to be sick who is not. -/
def Snd (first : List Int) (E : Mt → Prop) (w n N : Int) (f : Int → Int) : Prop := ∀ i, 0 ≤ i → i < n → f i = N ∨ Sk first E w i (f i)
/-- Each of the meetings P is reckoned. -/
def Reck (E P : Mt → Prop) (w : Int) (f : Int → Int) : Prop := ∀ x, P x → E x → (f x.a ≤ x.day → f x.b ≤ x.day + w) ∧ (f x.b ≤ x.day → f x.a ≤ x.day + w)

theorem Reck.low {E P : Mt → Prop} {w D : Int} {f g : Int → Int} (h : Reck E P w f) (hg : ∀ j, g j = f j ∨ (g j ≤ f j ∧ g j = D + w)) (hd : ∀ x, P x → x.day ≤ D) (hw : 1 ≤ w) : Reck E P w g := by
  intro x hx hE
  obtain ⟨h1, h2⟩ := h x hx hE
  have hD := hd x hx
  have ga := hg x.a
  have gb := hg x.b
  constructor
  · intro h3
    have : f x.a ≤ x.day := by rcases ga with h | ⟨h, h'⟩ <;> omega
    have := h1 this
    rcases gb with h | ⟨h, h'⟩ <;> omega
  · intro h3
    have : f x.b ≤ x.day := by rcases gb with h | ⟨h, h'⟩ <;> omega
    have := h2 this
    rcases ga with h | ⟨h, h'⟩ <;> omega
theorem Snd.caught {first : List Int} {E : Mt → Prop} {w n N : Int} {f : Int → Int} (h : Snd first E w n N f) {i j : Int} {x : Mt} (hx : E x) (ho : okMt n x) (hN : 100000 < N) (hl : x.links i j) (hf : f i ≤ x.day) : Sk first E w j (x.day + w) := by
  obtain ⟨h1, h2, h3, h4, -, h6, h7⟩ := ho
  have hi : 0 ≤ i ∧ i < n := by
    rcases hl with ⟨rfl, -⟩ | ⟨rfl, -⟩
    · exact ⟨h1, h2⟩
    · exact ⟨h3, h4⟩
  rcases h i hi.1 hi.2 with h | h
  · omega
  · exact .caught h hx hl hf
/-- Where all is reckoned that matters by day d, who is told to be sick on day d is. -/
theorem reckoned {first : List Int} {E P : Mt → Prop} {w n N d : Int} {f : Int → Int} (hs : Snd first E w n N f) (hb : ∀ i ∈ first, f i ≤ 0) (hr : Reck E P w f) (hf : ∀ i ∈ first, 0 ≤ i ∧ i < n) (ho : ∀ x, E x → okMt n x)
    (hp : ∀ x, E x → P x ∨ d < x.day + w) (hw : 1 ≤ w) (hd : d < N) {i : Int} (hi : 0 ≤ i ∧ i < n) : f i ≤ d ↔ SkBy first E w d i := by
  constructor
  · intro h
    rcases hs i hi.1 hi.2 with h' | h'
    · omega
    · exact ⟨_, h', h⟩
  · rintro ⟨t, ht, htd⟩
    suffices h : ∀ i t, Sk first E w i t → t ≤ d → f i ≤ t by have := h i t ht htd; omega
    intro i t ht
    induction ht with
    | start h => intro _; exact hb _ h
    | @caught i j s x h hx hl hs' ih =>
      intro hle
      have h1 : f i ≤ s := ih (by omega)
      rcases hp x hx with hP | hP
      · obtain ⟨r1, r2⟩ := hr x hP hx
        rcases hl with ⟨rfl, rfl⟩ | ⟨rfl, rfl⟩
        · exact r1 (by omega)
        · exact r2 (by omega)
      · omega

/-- One direction of a meeting. -/
def upd (f : Int → Int) (i v : Int) : Int → Int := fun j => if j = i then v else f j
def passOn (b : Bool) (D w : Int) (i j : Int) (f : Int → Int) : Int → Int := if b = true ∧ f i ≤ D then upd f j (mn (f j) (D + w)) else f
theorem passOn_low (b : Bool) (D w : Int) (i j : Int) (f : Int → Int) : ∀ k, passOn b D w i j f k = f k ∨ (passOn b D w i j f k ≤ f k ∧ passOn b D w i j f k = D + w) := by
  intro k
  unfold passOn
  by_cases h : b = true ∧ f i ≤ D
  · rw [if_pos h]
    unfold upd
    by_cases hk : k = j
    · subst hk
      simp only [if_true, mn]
      split <;> omega
    · rw [if_neg hk]; exact .inl rfl
  · rw [if_neg h]; exact .inl rfl
theorem passOn_to {b : Bool} {D w : Int} {i j : Int} {f : Int → Int} (hb : b = true) (h : f i ≤ D) : passOn b D w i j f j ≤ D + w := by
  unfold passOn
  rw [if_pos ⟨hb, h⟩]
  simp only [upd, if_true, mn]
  split <;> omega
theorem passOn_same {b : Bool} {D w : Int} {i j k : Int} {f : Int → Int} (h : k ≠ j) : passOn b D w i j f k = f k := by
  unfold passOn
  split
  · simp [upd, h]
  · rfl
theorem passOn_le (b : Bool) (D w : Int) (i j : Int) (f : Int → Int) (k : Int) : passOn b D w i j f k ≤ f k := by
  rcases passOn_low b D w i j f k with h | ⟨h, -⟩ <;> omega
theorem Snd.pass {first : List Int} {E : Mt → Prop} {w n N : Int} {f : Int → Int} (h : Snd first E w n N f) {b : Bool} {i j : Int} {x : Mt} (hx : b = true → E x) (ho : okMt n x) (hN : 100000 < N) (hl : x.links i j) : Snd first E w n N (passOn b x.day w i j f) := by
  intro k h1 h2
  unfold passOn
  by_cases hc : b = true ∧ f i ≤ x.day
  · rw [if_pos hc]
    unfold upd
    by_cases hk : k = j
    · subst hk
      simp only [if_true, mn]
      split
      · exact .inr (h.caught (hx hc.1) ho hN hl hc.2)
      · exact h k h1 h2
    · rw [if_neg hk]; exact h k h1 h2
  · rw [if_neg hc]; exact h k h1 h2
/-- Both directions of a meeting, behind all of earlier days. -/
def both (b : Bool) (x : Mt) (w : Int) (f : Int → Int) : Int → Int := passOn b x.day w x.b x.a (passOn b x.day w x.a x.b f)
theorem Snd.passes {first : List Int} {E : Mt → Prop} {w n N : Int} {f : Int → Int} (h : Snd first E w n N f) {b : Bool} {x : Mt} (hx : b = true → E x) (ho : okMt n x) (hN : 100000 < N) : Snd first E w n N (both b x w f) :=
  (h.pass hx ho hN (.inl ⟨rfl, rfl⟩)).pass hx ho hN (.inr ⟨rfl, rfl⟩)
theorem both_le (b : Bool) (x : Mt) (w : Int) (f : Int → Int) (k : Int) : both b x w f k ≤ f k := Int.le_trans (passOn_le ..) (passOn_le ..)
theorem Reck.passes {E P : Mt → Prop} {w n : Int} {f : Int → Int} (h : Reck E P w f) {b : Bool} {x : Mt} (hx : E x → b = true) (ho : okMt n x) (hd : ∀ y, P y → y.day ≤ x.day) (hw : 1 ≤ w) : Reck E (fun y => P y ∨ y = x) w (both b x w f) := by
  have hne := ho.2.2.2.2.1
  have h1 : Reck E P w (both b x w f) := (h.low (passOn_low b x.day w x.a x.b f) hd hw).low (passOn_low b x.day w x.b x.a _) hd hw
  rintro y (hy | rfl) hE
  · exact h1 y hy hE
  · have hb := hx hE
    unfold both
    have e1 : passOn b y.day w y.b y.a (passOn b y.day w y.a y.b f) y.b = passOn b y.day w y.a y.b f y.b := passOn_same (fun e => hne e.symm)
    constructor
    · intro h2
      rw [e1]
      have h3 : f y.a ≤ y.day := by
        rcases passOn_low b y.day w y.b y.a (passOn b y.day w y.a y.b f) y.a with h | ⟨h, h'⟩
        · rw [h, passOn_same hne] at h2; exact h2
        · omega
      exact passOn_to hb h3
    · intro h2
      rw [e1] at h2
      exact passOn_to hb h2

/-- What is known of an animal. -/
def Knw (first : List Int) (ms : List Mt) (w : Int × Int) (d i v : Int) : Prop :=
  (SkBy first (fun x => x ∈ ms ∧ x.close = true) w.2 d i ∧ v = 2) ∨ (¬ SkBy first (fun x => x ∈ ms ∧ x.close = true) w.2 d i ∧ SkBy first (fun x => x ∈ ms) w.1 d i ∧ v = 1) ∨ (¬ SkBy first (fun x => x ∈ ms) w.1 d i ∧ v = 0)
theorem Knw.unique {first : List Int} {ms : List Mt} {w : Int × Int} {d i u v : Int} (hw : w.1 ≤ w.2) (h1 : Knw first ms w d i u) (h2 : Knw first ms w d i v) : u = v := by
  have hs : SkBy first (fun x => x ∈ ms ∧ x.close = true) w.2 d i → SkBy first (fun x => x ∈ ms) w.1 d i := fun h => h.early (fun _ hx => hx.1) hw
  rcases h1 with ⟨a, rfl⟩ | ⟨a, b, rfl⟩ | ⟨a, rfl⟩ <;> rcases h2 with ⟨c, rfl⟩ | ⟨c, d, rfl⟩ | ⟨c, rfl⟩ <;> first | rfl | exact absurd c a | exact absurd a c | exact absurd (hs c) a | exact absurd (hs a) c | exact absurd d a | exact absurd b c
theorem Knw.range {first : List Int} {ms : List Mt} {w : Int × Int} {d i v : Int} (h : Knw first ms w d i v) : 0 ≤ v ∧ v ≤ 2 := by
  rcases h with ⟨-, rfl⟩ | ⟨-, -, rfl⟩ | ⟨-, rfl⟩ <;> decide
/-- By its days. -/
theorem Knw.told {first : List Int} {ms : List Mt} {w : Int × Int} {d i lo hi : Int} (hw : w.1 ≤ w.2) (h1 : lo ≤ d ↔ SkBy first (fun x => x ∈ ms) w.1 d i) (h2 : hi ≤ d ↔ SkBy first (fun x => x ∈ ms ∧ x.close = true) w.2 d i) :
    Knw first ms w d i (if hi ≤ d then 2 else if lo ≤ d then 1 else 0) := by
  by_cases h : hi ≤ d
  · rw [if_pos h]; exact .inl ⟨h2.1 h, rfl⟩
  · rw [if_neg h]
    by_cases h' : lo ≤ d
    · rw [if_pos h']; exact .inr (.inl ⟨fun hh => h (h2.2 hh), h1.1 h', rfl⟩)
    · rw [if_neg h']; exact .inr (.inr ⟨fun hh => h' (h1.2 hh), rfl⟩)
end Go.Proofs.Ytafdcbdbllpcnaa
/- Laws for wide structs: a whole block read, a whole new block written, whatever its width; over every program. -/
namespace Go.Proofs.Ytafdcbdbllpcnaa
open Go.RowKit

/-- The cells of a block that is no map and that may be written. -/
def rowOf (w : World) (g : Nat) : Option (Array Value) := match w.heap[g]? with | some (.cells cs _ (0, 0)) => some cs | _ => none

theorem heap_alloc_if (w : World) (o : Obj) (g : Nat) : (w.alloc o).heap[g]? = if g = w.heap.size then some o else w.heap[g]? := by
  show (w.heap.push o)[g]? = _
  rw [Array.getElem?_push]
theorem rowOf_alloc (w : World) (cs : Array Value) (t : TypeId) (g : Nat) : rowOf (w.alloc (.cells cs t)) g = if g = w.heap.size then some cs else rowOf w g := by
  unfold rowOf
  rw [heap_alloc_if]
  by_cases h : g = w.heap.size <;> simp [h]
theorem rowOf_below {W w1 : World} (h : Below W.heap.size W w1) : ∀ b, b < W.heap.size → rowOf w1 b = rowOf W b := fun b hb => by
  unfold rowOf
  rw [h.block b hb]
theorem rowOf_drew (w : World) (g : Nat) : rowOf w.drew g = rowOf w g := rfl
theorem rowOf_some {w : World} {g : Nat} {cs : Array Value} (h : rowOf w g = some cs) : ∃ t, w.heap[g]? = some (.cells cs t (0, 0)) := by
  unfold rowOf at h
  split at h
  · rename_i c t he
    exact ⟨t, by rw [he]; simp at h; rw [h]⟩
  · simp at h

theorem setRow_alloc (w : World) (cs vs : Array Value) (t : TypeId) (g : Nat) (hg : g ≤ w.heap.size) : (w.alloc (.cells cs t)).setRow g vs = if g = w.heap.size then w.alloc (.cells vs t) else (w.setRow g vs).alloc (.cells cs t) := by
  simp only [World.setRow, World.alloc]
  by_cases h : g = w.heap.size
  · subst h
    rw [if_pos rfl]
    congr 1
    apply Array.ext_getElem?
    intro i
    simp only [Array.getElem?_modify, Array.getElem?_push]
    by_cases hi : i = w.heap.size
    · subst hi; simp
    · simp [hi, Ne.symm hi]
  · rw [if_neg h]
    congr 1
    apply Array.ext_getElem?
    intro i
    simp only [Array.getElem?_modify, Array.getElem?_push, Array.size_modify]
    by_cases hi : i = w.heap.size
    · subst hi; simp [h]
    · simp [hi]

theorem Below_setRow {B : Nat} {a w : World} (h : Below B a w) {g : Nat} (hg : B ≤ g) (vs : Array Value) : Below B a (w.setRow g vs) :=
  h.trans ⟨rfl, rfl, rfl, by simp [World.setRow], fun k hk => setRow_other w g k vs (by omega)⟩

theorem one_int (k : IntKind) (n : Int) : (Value.int k n).oneCell' = true := rfl
theorem one_bool (b : Bool) : (Value.bool b).oneCell' = true := rfl

theorem mn_min (x y : Int) : mn x y = min x y := by unfold mn; omega
theorem mx_max (x y : Int) : mx x y = max x y := by unfold mx; omega
section
variable {P : Program} (w : World) (ts : Array TypeId) (t : TypeId)
theorem run_min4 (x y z u : Int) : (Builtin.min_ ts t #[.int .i64 x, .int .i64 y, .int .i64 z, .int .i64 u]).run P w = .ok (.int .i64 (mn (mn (mn x y) z) u)) w := by
  unfold mn
  simp only [Builtin.min_, List.foldlM_cons, List.foldlM_nil]
  by_cases h1 : y < x <;> by_cases h2 : z < (if y < x then y else x) <;> simp [Builtin.min2, h1]
theorem run_min2 (x y : Int) : (Builtin.min_ ts t #[.int .i64 x, .int .i64 y]).run P w = .ok (.int .i64 (mn x y)) w := by
  simp [mn, Builtin.min_, Builtin.min2]
theorem run_max2 (k : IntKind) (x y : Int) : (Builtin.max_ ts t #[.int k x, .int k y]).run P w = .ok (.int k (mx x y)) w := by
  simp [mx, Builtin.max_, Builtin.max2]
end

/-- A whole load, a whole store: the walk does not open them. -/
def wideLoad (t : TypeId) (v : Value) : Sem Next := do pure (.value (← Instr.loadAt t v))
def wideStore (t : TypeId) (v x : Value) : Sem Next := do Instr.storeAt t v x; pure .skip
def wideLoadElse (P : Program) (t : TypeId) (g : Nat) (w : World) : Result Next := (wideLoad t (.pointer (some ⟨g, 0, none⟩))).run P w
def wideStoreElse (P : Program) (t : TypeId) (g : Nat) (x : Value) (w : World) : Result Next := (wideStore t (.pointer (some ⟨g, 0, none⟩)) x).run P w

theorem execOp_wideLoad (t : TypeId) (ρ : Operand → Value) (dst : Option Tmp) (x : Operand) (ty : TypeId) (pos : String) (after : Array Edge) (guard : Option (Nat × Bool)) :
    execOp ρ { dst, op := .load t x, type := ty, pos, after, guard } = wideLoad t (ρ x) := rfl
theorem execOp_wideStore (t : TypeId) (ρ : Operand → Value) (dst : Option Tmp) (x y : Operand) (ty : TypeId) (pos : String) (after : Array Edge) (guard : Option (Nat × Bool)) :
    execOp ρ { dst, op := .store t x y, type := ty, pos, after, guard } = wideStore t (ρ x) (ρ y) := rfl

theorem cell_of_rowOf {w : World} {g : Nat} {cs : Array Value} (h : rowOf w g = some cs) : (∀ j, w.cell? ⟨g, j, none⟩ = cs[j]?) ∧ (∀ j, w.frozen? ⟨g, j, none⟩ = false) ∧ g < w.heap.size := by
  obtain ⟨t, hg⟩ := rowOf_some h
  exact ⟨fun j => cell_of_row w g j cs t _ hg, fun j => frozen_of_row w g j cs t hg, (Array.getElem?_eq_some_iff.1 hg).1⟩
/-- Behind a call a block of the caller's reads as it did. -/
theorem keep_row {W w1 : World} (hB : Below W.heap.size W w1) {g : Nat} {cs : Array Value} (h : rowOf W g = some cs) : rowOf w1 g = some cs ∧ (∀ j, w1.cell? ⟨g, j, none⟩ = cs[j]?) ∧ (∀ j, w1.frozen? ⟨g, j, none⟩ = false) ∧ g < w1.heap.size := by
  have h' : rowOf w1 g = some cs := by rw [rowOf_below hB g (cell_of_rowOf h).2.2]; exact h
  exact ⟨h', cell_of_rowOf h'⟩

theorem row_here0 (w : World) (cs : Array Value) (t : TypeId) : rowOf (w.alloc (.cells cs t)) w.heap.size = some cs := by rw [rowOf_alloc, if_pos rfl]
theorem row_here1 (w : World) (o : Obj) (cs : Array Value) (t : TypeId) : rowOf ((w.alloc o).alloc (.cells cs t)) (w.heap.size + 1) = some cs := by rw [rowOf_alloc, if_pos (by simp)]
theorem row_here2 (w : World) (o o' : Obj) (cs : Array Value) (t : TypeId) : rowOf (((w.alloc o).alloc o').alloc (.cells cs t)) (w.heap.size + 1 + 1) = some cs := by rw [rowOf_alloc, if_pos (by simp)]
theorem row_here3 (w : World) (o o' o'' : Obj) (cs : Array Value) (t : TypeId) : rowOf ((((w.alloc o).alloc o').alloc o'').alloc (.cells cs t)) (w.heap.size + 1 + 1 + 1) = some cs := by rw [rowOf_alloc, if_pos (by simp)]
theorem rowSkip {w : World} {o : Obj} {g : Nat} {r : Array Value} (h : rowOf w g = some r) : rowOf (w.alloc o) g = some r := by
  have hg := (cell_of_rowOf h).2.2
  unfold rowOf at h ⊢
  rw [heap_alloc_if, if_neg (by omega)]
  exact h

section
variable {P : Program}
theorem run_wideLoad {t : TypeId} {d : TypeDesc} (n : Nat) (hu : P.underlying t = some d) (hd : (match d with | .struct _ | .array _ _ => true | _ => false) = true) (hi : (P.info? t).map (·.size) = some n)
    (g : Nat) (w : World) : (wideLoad t (.pointer (some ⟨g, 0, none⟩))).run P w = match rowOf w g with
      | some cs => if cs.size = n then .ok (.value (.agg cs)) w else wideLoadElse P t g w
      | none => wideLoadElse P t g w := by
  cases h : rowOf w g with
  | none => rfl
  | some cs =>
    obtain ⟨t', hg⟩ := rowOf_some h
    by_cases hs : cs.size = n
    · simp only [hs, if_true]
      subst hs
      simp only [wideLoad, Instr.loadAt, Instr.sureAddr, Sem.run_bind, Sem.run_pure, Result.andThen_ok, run_loadVar_row w g t' t cs (0, 0) d hg hu hd hi]
    · simp only [hs, if_false]; rfl
theorem run_wideStore {t : TypeId} (n : Nat) (hi : (P.info? t).map (·.size) = some n)
    (g : Nat) (vs : Array Value) (w : World) : (wideStore t (.pointer (some ⟨g, 0, none⟩)) (.agg vs)).run P w = match rowOf w g with
      | some cs => if cs.size = n ∧ vs.size = n ∧ vs.all (·.oneCell') = true then .ok .skip (w.setRow g vs) else wideStoreElse P t g (.agg vs) w
      | none => wideStoreElse P t g (.agg vs) w := by
  cases h : rowOf w g with
  | none => rfl
  | some cs =>
    obtain ⟨t', hg⟩ := rowOf_some h
    by_cases hs : cs.size = n ∧ vs.size = n ∧ vs.all (·.oneCell') = true
    · show _ = if cs.size = n ∧ vs.size = n ∧ vs.all (·.oneCell') = true then Result.ok Next.skip (w.setRow g vs) else wideStoreElse P t g (.agg vs) w
      rw [if_pos hs]
      obtain ⟨h1, h2, h3⟩ := hs
      simp only [wideStore, Instr.storeAt, Instr.sureAddr, Sem.run_bind, Sem.run_pure, Result.andThen_ok, run_storeVar_row w g t' t cs vs hg (by rw [hi, h2]) (by rw [h1, h2]) h3]
    · show _ = if cs.size = n ∧ vs.size = n ∧ vs.all (·.oneCell') = true then Result.ok Next.skip (w.setRow g vs) else wideStoreElse P t g (.agg vs) w
      rw [if_neg hs]; rfl

/-- A result that lies in a block. -/
theorem results_row {fn : Func} {p : Tmp} {t : TypeId} (h : fn.results = #[.cell p t]) {d : TypeDesc} (n : Nat) (hu : P.underlying t = some d) (hd : (match d with | .struct _ | .array _ _ => true | _ => false) = true) (hi : (P.info? t).map (·.size) = some n)
    {tmps : Array Value} {w : World} {g : Nat} (hp : tmps.getD p undef = .pointer (some ⟨g, 0, none⟩)) {cs : Array Value} (hg : rowOf w g = some cs) (hs : cs.size = n) : (results fn tmps).run P w = .ok (.agg cs) w := by
  obtain ⟨t', hg'⟩ := rowOf_some hg
  subst hs
  exact results_cell_row h tmps w g t' cs (0, 0) d hp hg' hu hd hi
end
end Go.Proofs.Ytafdcbdbllpcnaa
/- Contracts of the smallest functions of package camel: what each returns, for all numbers; only new memory is written. -/
namespace Go.Proofs.Ytafdcbdbllpcnaa
open Go.RowKit
open Go.Proofs

theorem exactly_any (n : Int) (w : World) :
    Calls Try.prog 77 #[.int .i64 n] w fun e w' => e = .returned (.agg #[.int .i64 n, .int .i64 n]) ∧ Below w.heap.size w w' := by
  go_enter Try.func77, Try.ntmps77
  go_wp2
  go_returns
  exact ⟨rfl, by go_grown⟩
end Go.Proofs.Ytafdcbdbllpcnaa
/- Contracts of the functions of package camel that take any number of spans. -/
namespace Go.Proofs.Ytafdcbdbllpcnaa
open Go.RowKit
open Go.Proofs

/-- The spans of a list lie one behind the other in a block. -/
def SpansAt (w : World) (b off : Nat) (ss : List (Int × Int)) : Prop :=
  ∀ k, k < ss.length → w.cell? ⟨b, off + k * 2, none⟩ = some (.int .i64 (ss[k]?.getD (0, 0)).1) ∧ w.cell? ⟨b, off + k * 2 + 1, none⟩ = some (.int .i64 (ss[k]?.getD (0, 0)).2)

theorem ret_bool {a b : Bool} (h : a = b) : Ending.returned (.bool a) = .returned (.bool b) := by rw [h]
theorem ret_int {k : IntKind} {a b : Int} (h : a = b) : Ending.returned (.int k a) = .returned (.int k b) := by rw [h]
theorem ret_span {a b : Int × Int} (h : a = b) : Ending.returned (.agg #[.int .i64 a.1, .int .i64 a.2]) = .returned (.agg #[.int .i64 b.1, .int .i64 b.2]) := by rw [h]

theorem all_step (most : Int) (ss : List (Int × Int)) (k : Nat) (h : k < ss.length) (ha : (ss.take k).all (okSpan most) = true) (a : 0 ≤ ss[k].1) (b : ss[k].1 ≤ ss[k].2) (c : ss[k].2 ≤ most) : (ss.take (k + 1)).all (okSpan most) = true := by
  rw [List.take_succ_eq_append_getElem h, List.all_append, ha]
  simp [okSpan, a, b, c]
theorem all_no (most : Int) (ss : List (Int × Int)) (k : Nat) (h : k < ss.length) (hn : ss[k].1 < 0 ∨ ss[k].2 < ss[k].1 ∨ most < ss[k].2) : ss.all (okSpan most) = false := by
  rw [List.all_eq_false]
  refine ⟨ss[k], List.getElem_mem h, ?_⟩
  simp only [okSpan, Bool.and_eq_true, decide_eq_true_eq]
  omega

set_option maxHeartbeats 400000 in
theorem within_any (most : Int) (b off cap : Nat) (ss : List (Int × Int)) (w : World) (hs : SpansAt w b off ss) (hb : b < w.heap.size) (hl : ss.length ≤ 1000) :
    Calls Try.prog 74 #[.int .i64 most, .slice (some ⟨b, off, none⟩) ss.length cap] w fun e w' => e = .returned (.bool (ss.all (okSpan most))) ∧ Below w.heap.size w w' := by
  have HS := Lib.hid hs
  clear hs
  go_enter Try.func74, Try.ntmps74
  go_wp2
  go_loopw [9] (fun i wr => ∃ k : Nat, k ≤ ss.length ∧ i = .int .i64 k ∧ Hid ((ss.take k).all (okSpan most) = true) ∧ Below w.heap.size w wr) (fun i _ => ss.length - (intOf i).toNat)
  case atStart => exact ⟨0, Nat.zero_le _, rfl, by simp [Hid], Below.refl _ _⟩
  case round =>
    obtain ⟨k, hk, rfl, hall, hB⟩ := hrel
    by_cases hlt : k < ss.length
    · obtain ⟨c0, c1⟩ := HS.out k hlt
      rw [← hB.cell (p := ⟨b, off + k * 2, none⟩) hb] at c0
      rw [← hB.cell (p := ⟨b, off + k * 2 + 1, none⟩) hb] at c1
      have hg := hB.size
      go_wp2
      case roundEnd => exact ⟨⟨k + 1, by omega, by go_num, all_step most ss k hlt hall.out (by assumption) (by assumption) (by omega), hB.alloc hg _⟩, by simp [intOf]; omega⟩
      all_goals
        go_returns
        exact ⟨ret_bool (all_no most ss k hlt (by omega)).symm, hB.alloc hg _⟩
    · obtain rfl : k = ss.length := by omega
      go_wp2
      go_returns
      have h := hall.out
      rw [List.take_length] at h
      exact ⟨ret_bool h.symm, hB⟩

end Go.Proofs.Ytafdcbdbllpcnaa
/- Contracts of package camel's sum and scaled at two and three spans: what they return, for all numbers within bounds. -/
namespace Go.Proofs.Ytafdcbdbllpcnaa
open Go.RowKit
open Go.Proofs

/-- A cell of a world stands in every world that is as it was below a bound. -/
theorem at_below {B : Nat} {w w' : World} {a : Addr} {v : Value} (hB : Below B w w') (h : a.block < B) (hc : w.cell? a = some v) : w'.cell? a = some v := (hB.cell (p := a) h).trans hc
theorem alloc3 {w : World} {b o : Nat} {v : Value} (hb : b < w.heap.size) (hc : w.cell? ⟨b, o, none⟩ = some v) : ∀ o1 o2 o3, (((w.alloc o1).alloc o2).alloc o3).cell? ⟨b, o, none⟩ = some v := fun o1 o2 o3 =>
  at_below (B := w.heap.size) (by go_grown) hb hc
theorem alloc4 {w : World} {b o : Nat} {v : Value} (hb : b < w.heap.size) (hc : w.cell? ⟨b, o, none⟩ = some v) : ∀ o1 o2 o3 o4, ((((w.alloc o1).alloc o2).alloc o3).alloc o4).cell? ⟨b, o, none⟩ = some v := fun o1 o2 o3 o4 =>
  at_below (B := w.heap.size) (by go_grown) hb hc

set_option maxHeartbeats 400000 in
theorem sum2_any (a1 a2 b1 b2 : Int) (b cap : Nat) (w : World) (hb : b < w.heap.size)
    (c0 : w.cell? ⟨b, 0, none⟩ = some (.int .i64 a1)) (c1 : w.cell? ⟨b, 1, none⟩ = some (.int .i64 a2))
    (c2 : w.cell? ⟨b, 2, none⟩ = some (.int .i64 b1)) (c3 : w.cell? ⟨b, 3, none⟩ = some (.int .i64 b2))
    (ha1 : -1000000000000000 ≤ a1) (ha1' : a1 ≤ 1000000000000000) (ha2 : -1000000000000000 ≤ a2) (ha2' : a2 ≤ 1000000000000000)
    (hb1 : -1000000000000000 ≤ b1) (hb1' : b1 ≤ 1000000000000000) (hb2 : -1000000000000000 ≤ b2) (hb2' : b2 ≤ 1000000000000000) :
    Calls Try.prog 85 #[.slice (some ⟨b, 0, none⟩) 2 cap] w fun e w' => e = .returned (.agg #[.int .i64 (a1 + b1), .int .i64 (a2 + b2)]) ∧ Below w.heap.size w w' := by
  have d2 := alloc3 hb c2
  have d3 := alloc3 hb c3
  go_enter Try.func85, Try.ntmps85
  go_wp2
  go_rounds 3
  all_goals go_returns
  all_goals exact ⟨rfl, by go_grown⟩

set_option maxHeartbeats 400000 in
theorem sum3_any (a1 a2 b1 b2 e1 e2 : Int) (b cap : Nat) (w : World) (hb : b < w.heap.size)
    (c0 : w.cell? ⟨b, 0, none⟩ = some (.int .i64 a1)) (c1 : w.cell? ⟨b, 1, none⟩ = some (.int .i64 a2))
    (c2 : w.cell? ⟨b, 2, none⟩ = some (.int .i64 b1)) (c3 : w.cell? ⟨b, 3, none⟩ = some (.int .i64 b2))
    (c4 : w.cell? ⟨b, 4, none⟩ = some (.int .i64 e1)) (c5 : w.cell? ⟨b, 5, none⟩ = some (.int .i64 e2))
    (ha1 : -1000000000000000 ≤ a1) (ha1' : a1 ≤ 1000000000000000) (ha2 : -1000000000000000 ≤ a2) (ha2' : a2 ≤ 1000000000000000)
    (hb1 : -1000000000000000 ≤ b1) (hb1' : b1 ≤ 1000000000000000) (hb2 : -1000000000000000 ≤ b2) (hb2' : b2 ≤ 1000000000000000)
    (he1 : -1000000000000000 ≤ e1) (he1' : e1 ≤ 1000000000000000) (he2 : -1000000000000000 ≤ e2) (he2' : e2 ≤ 1000000000000000) :
    Calls Try.prog 85 #[.slice (some ⟨b, 0, none⟩) 3 cap] w fun e w' => e = .returned (.agg #[.int .i64 (a1 + b1 + e1), .int .i64 (a2 + b2 + e2)]) ∧ Below w.heap.size w w' := by
  have d2 := alloc3 hb c2
  have d3 := alloc3 hb c3
  have d4 := alloc4 hb c4
  have d5 := alloc4 hb c5
  go_enter Try.func85, Try.ntmps85
  go_wp2
  go_rounds 4
  all_goals go_returns
  all_goals exact ⟨rfl, by go_grown⟩

theorem mul_bd {x y : Int} (hx : 0 ≤ x) (hy : 0 ≤ y) : 0 ≤ x * y := Int.mul_nonneg hx hy

set_option maxHeartbeats 400000 in
theorem scaled2_any (d a1 a2 b1 b2 : Int) (b cap : Nat) (w : World) (hb : b < w.heap.size)
    (c0 : w.cell? ⟨b, 0, none⟩ = some (.int .i64 a1)) (c1 : w.cell? ⟨b, 1, none⟩ = some (.int .i64 a2))
    (c2 : w.cell? ⟨b, 2, none⟩ = some (.int .i64 b1)) (c3 : w.cell? ⟨b, 3, none⟩ = some (.int .i64 b2))
    (hd : 1 ≤ d) (hd' : d ≤ 1000000000000000)
    (ha1 : 0 ≤ a1) (ha1' : a1 ≤ 1000000000000000) (ha2 : 0 ≤ a2) (ha2' : a2 ≤ 1000000000000000)
    (hp1 : 0 ≤ a1 * b1) (hp1' : a1 * b1 ≤ 1000000000000000) (hp2 : 0 ≤ a2 * b2) (hp2' : a2 * b2 ≤ 1000000000000000) :
    Calls Try.prog 86 #[.int .i64 d, .slice (some ⟨b, 0, none⟩) 2 cap] w fun e w' => e = .returned (.agg #[.int .i64 (a1 * b1 / d), .int .i64 ((a2 * b2 + d - 1) / d)]) ∧ Below w.heap.size w w' := by
  have d0 := alloc3 hb c0
  have d1 := alloc3 hb c1
  have d2 := alloc4 hb c2
  have d3 := alloc4 hb c3
  go_enter Try.func86, Try.ntmps86
  go_wp2
  go_rounds 3
  go_region
  all_goals go_wp2
  all_goals go_returns
  all_goals exact ⟨rfl, by go_grown⟩

/-- What lay before a call lies there behind it. -/
theorem bcell {W w1 : World} (hb : Below W.heap.size W w1) : (∀ b o, b < W.heap.size → w1.cell? ⟨b, o, none⟩ = W.cell? ⟨b, o, none⟩) ∧ (∀ b o, b < W.heap.size → w1.frozen? ⟨b, o, none⟩ = W.frozen? ⟨b, o, none⟩) ∧ W.heap.size ≤ w1.heap.size :=
  ⟨fun b o h => hb.cell (p := ⟨b, o, none⟩) h, fun b o h => hb.frozen (p := ⟨b, o, none⟩) h, hb.size⟩
end Go.Proofs.Ytafdcbdbllpcnaa
/- The wide structs of package camel: a breed, an animal at work, a day of an animal; read and written whole. -/
namespace Go.Proofs.Ytafdcbdbllpcnaa
open Go.RowKit
open Go.Proofs

theorem exec36l : ∀ ρ dst x ty pos after guard, execOp ρ { dst, op := .load 36 x, type := ty, pos, after, guard } = wideLoad 36 (ρ x) := execOp_wideLoad 36
theorem exec112l : ∀ ρ dst x ty pos after guard, execOp ρ { dst, op := .load 112 x, type := ty, pos, after, guard } = wideLoad 112 (ρ x) := execOp_wideLoad 112
theorem exec36s : ∀ ρ dst x y ty pos after guard, execOp ρ { dst, op := .store 36 x y, type := ty, pos, after, guard } = wideStore 36 (ρ x) (ρ y) := execOp_wideStore 36
theorem exec112s : ∀ ρ dst x y ty pos after guard, execOp ρ { dst, op := .store 112 x y, type := ty, pos, after, guard } = wideStore 112 (ρ x) (ρ y) := execOp_wideStore 112
theorem exec31s : ∀ ρ dst x y ty pos after guard, execOp ρ { dst, op := .store 31 x y, type := ty, pos, after, guard } = wideStore 31 (ρ x) (ρ y) := execOp_wideStore 31
theorem info31 : (Try.prog.info? 31).map (·.size) = some 2 := by kernel_rfl
theorem info36 : (Try.prog.info? 36).map (·.size) = some 17 := by kernel_rfl
theorem info112 : (Try.prog.info? 112).map (·.size) = some 24 := by kernel_rfl
theorem load36 (g : Nat) (w : World) : (wideLoad 36 (.pointer (some ⟨g, 0, none⟩))).run Try.prog w = match rowOf w g with
      | some cs => if cs.size = 17 then .ok (.value (.agg cs)) w else wideLoadElse Try.prog 36 g w
      | none => wideLoadElse Try.prog 36 g w := run_wideLoad (P := Try.prog) 17 Try.underlying36 rfl info36 g w
theorem load112 (g : Nat) (w : World) : (wideLoad 112 (.pointer (some ⟨g, 0, none⟩))).run Try.prog w = match rowOf w g with
      | some cs => if cs.size = 24 then .ok (.value (.agg cs)) w else wideLoadElse Try.prog 112 g w
      | none => wideLoadElse Try.prog 112 g w := run_wideLoad (P := Try.prog) 24 Try.underlying112 rfl info112 g w
theorem store36 (g : Nat) (vs : Array Value) (w : World) : (wideStore 36 (.pointer (some ⟨g, 0, none⟩)) (.agg vs)).run Try.prog w = match rowOf w g with
      | some cs => if cs.size = 17 ∧ vs.size = 17 ∧ vs.all (·.oneCell') = true then .ok .skip (w.setRow g vs) else wideStoreElse Try.prog 36 g (.agg vs) w
      | none => wideStoreElse Try.prog 36 g (.agg vs) w := run_wideStore (P := Try.prog) 17 info36 g vs w
theorem store112 (g : Nat) (vs : Array Value) (w : World) : (wideStore 112 (.pointer (some ⟨g, 0, none⟩)) (.agg vs)).run Try.prog w = match rowOf w g with
      | some cs => if cs.size = 24 ∧ vs.size = 24 ∧ vs.all (·.oneCell') = true then .ok .skip (w.setRow g vs) else wideStoreElse Try.prog 112 g (.agg vs) w
      | none => wideStoreElse Try.prog 112 g (.agg vs) w := run_wideStore (P := Try.prog) 24 info112 g vs w
theorem build112 (x0 x1 x2 x3 x4 x5 x6 x7 x8 x9 x10 x11 x12 x13 x14 x15 x16 y0 y1 y2 y3 y4 y5 : Value) (m : Bool) (w : World) :
    (Instr.build 112 #[(0, .agg #[x0, x1, x2, x3, x4, x5, x6, x7, x8, x9, x10, x11, x12, x13, x14, x15, x16]), (1, .agg #[y0, y1, y2, y3, y4, y5]), (2, .bool m)]).run Try.prog w = .ok (.agg #[x0, x1, x2, x3, x4, x5, x6, x7, x8, x9, x10, x11, x12, x13, x14, x15, x16, y0, y1, y2, y3, y4, y5, .bool m]) w := by kernel_rfl
theorem res112 {fn : Func} {p : Tmp} (h : fn.results = #[.cell p 112]) {tmps : Array Value} {w : World} {g : Nat} (hp : tmps.getD p undef = .pointer (some ⟨g, 0, none⟩)) {cs : Array Value} (hg : rowOf w g = some cs) (hs : cs.size = 24) : (results fn tmps).run Try.prog w = .ok (.agg cs) w :=
  results_row h 24 Try.underlying112 rfl info112 hp hg hs
theorem store31 (g : Nat) (vs : Array Value) (w : World) : (wideStore 31 (.pointer (some ⟨g, 0, none⟩)) (.agg vs)).run Try.prog w = match rowOf w g with
      | some cs => if cs.size = 2 ∧ vs.size = 2 ∧ vs.all (·.oneCell') = true then .ok .skip (w.setRow g vs) else wideStoreElse Try.prog 31 g (.agg vs) w
      | none => wideStoreElse Try.prog 31 g (.agg vs) w := run_wideStore (P := Try.prog) 2 info31 g vs w
theorem res31 {fn : Func} {p : Tmp} (h : fn.results = #[.cell p 31]) {tmps : Array Value} {w : World} {g : Nat} (hp : tmps.getD p undef = .pointer (some ⟨g, 0, none⟩)) {cs : Array Value} (hg : rowOf w g = some cs) (hs : cs.size = 2) : (results fn tmps).run Try.prog w = .ok (.agg cs) w :=
  results_row h 2 Try.underlying31 rfl info31 hp hg hs
end Go.Proofs.Ytafdcbdbllpcnaa
