/- Plain functions, continued: an animal in the evening of a day. -/
import Derived.Test.YtafdcbdbllpcnaaSpec2
namespace Go.Proofs.Ytafdcbdbllpcnaa

/-- A span moved into 0 to a number; what is left of one; what an animal has after it lost some and got some. -/
def cl (most : Int) (s : Int × Int) : Int × Int := (mn (mx s.1 0) most, mn (mx s.2 0) most)
def ls (s t : Int × Int) : Int × Int := (s.1 - t.2, s.2 - t.1)
def refS (most : Int) (h k g : Int × Int) : Int × Int := cl most (ad (cl most (ls h k)) g)
def healS (b : Br) (m : Mr) : Int := if m.hours = 0 then b.heal else 0
/-- An animal in the evening of a day; its fate. -/
def soreS (b : Br) (c : Cm) (m : Mr) : Int × Int := cl 1000 (ls (ad c.sore (soS b m)) (healS b m, healS b m))
def eveC (b : Br) (c : Cm) (m : Mr) : Cm := ⟨refS b.full c.water (waS b c.milks m) m.drinks, refS b.fed c.fat (faS b m) m.grass, soreS b c m, c.milks⟩
def diesS (b : Br) (c : Cm) (m : Mr) : Bool := decide (c.water.2 < (waS b c.milks m).1) || decide (c.fat.2 < (faS b m).1)
def openS (b : Br) (c : Cm) (m : Mr) : Bool := decide (c.water.1 < (waS b c.milks m).2) || decide (c.fat.1 < (faS b m).2)
def fateS (b : Br) (c : Cm) (m : Mr) : Int := if diesS b c m = true then 2 else if openS b c m = true then 1 else 0

theorem cl_bd {most : Int} {s : Int × Int} (h : 0 ≤ most) : 0 ≤ (cl most s).1 ∧ (cl most s).1 ≤ most ∧ 0 ≤ (cl most s).2 ∧ (cl most s).2 ≤ most := by
  simp only [cl, mn, mx]
  refine ⟨?_, ?_, ?_, ?_⟩ <;> (repeat' split) <;> omega
theorem cl_le {most : Int} {s : Int × Int} (h : s.1 ≤ s.2) : (cl most s).1 ≤ (cl most s).2 := by
  simp only [cl, mn, mx]
  (repeat' split) <;> omega
theorem ad_le {s t : Int × Int} (h : s.1 ≤ s.2) (k : t.1 ≤ t.2) : (ad s t).1 ≤ (ad s t).2 := by simp only [ad]; omega
theorem ls_le {s t : Int × Int} (h : s.1 ≤ s.2) (k : t.1 ≤ t.2) : (ls s t).1 ≤ (ls s t).2 := by simp only [ls]; omega
theorem sc_le {d : Int} {s t : Int × Int} (hd : 1 ≤ d) (s1 : 0 ≤ s.1) (s2 : s.1 ≤ s.2) (t1 : 0 ≤ t.1) (t2 : t.1 ≤ t.2) : (sc d s t).1 ≤ (sc d s t).2 := by
  have h := Int.mul_le_mul s2 t2 t1 (by omega)
  exact Int.ediv_le_ediv (by omega) (by omega)
theorem hsS_le {m : Mr} (hm : BdM m) : (hsS m).1 ≤ (hsS m).2 := by
  have := hm.heat
  simp only [hsS, mx]
  (repeat' split) <;> omega
theorem waS_bd {b : Br} {m : Mr} (k : Bool) (hb : BdB b) (hm : BdM m) : 0 ≤ (waS b k m).1 ∧ (waS b k m).1 ≤ (waS b k m).2 ∧ (waS b k m).2 ≤ 100000000000000 := by
  obtain ⟨h1, h2, h3, h4⟩ := hsS_bd hm
  obtain ⟨u1, u2, u3, u4⟩ := buS_bd hm
  obtain ⟨a1, a2, a3⟩ := hb.rest
  obtain ⟨b1, b2, b3⟩ := hb.heat
  obtain ⟨c1, c2, c3⟩ := hb.toil
  obtain ⟨f1, f2, f3⟩ := hb.milk
  obtain ⟨-, -, -, -, x1, x2, x3, x4⟩ := sc_bd (d := 1) (by omega) b1 b2 b3 h1 h2 h3 h4
  obtain ⟨-, -, -, -, y1, y2, y3, y4⟩ := sc_bd (d := 100000) (by omega) c1 c2 c3 u1 u2 u3 u4
  have l1 := sc_le (d := 1) (by omega) b1 b2 h1 (hsS_le hm)
  have l2 := sc_le (d := 100000) (s := b.toil) (t := buS m) (by omega) c1 c2 u1 (Int.le_refl _)
  cases k <;> simp only [waS, wa0S, ad, if_true, Bool.false_eq_true, if_false] <;> omega
theorem faS_bd {b : Br} {m : Mr} (hb : BdB b) (hm : BdM m) : 0 ≤ (faS b m).1 ∧ (faS b m).1 ≤ (faS b m).2 ∧ (faS b m).2 ≤ 100000000000000 := by
  obtain ⟨u1, u2, u3, u4⟩ := buS_bd hm
  obtain ⟨d1, d2, d3⟩ := hb.burn
  obtain ⟨-, -, -, -, y1, y2, y3, y4⟩ := sc_bd (d := 100000) (by omega) d1 d2 d3 u1 u2 u3 u4
  have l2 := sc_le (d := 100000) (s := b.burn) (t := buS m) (by omega) d1 d2 u1 (Int.le_refl _)
  simp only [faS]
  omega
theorem soS_bd {b : Br} {m : Mr} (hb : BdB b) (hm : BdM m) : 0 ≤ (soS b m).1 ∧ (soS b m).1 ≤ (soS b m).2 ∧ (soS b m).2 ≤ 100000000000000 := by
  obtain ⟨u1, u2, u3, u4⟩ := ruS_bd hm
  obtain ⟨d1, d2, d3⟩ := hb.rub
  obtain ⟨-, -, -, -, y1, y2, y3, y4⟩ := sc_bd (d := 1000000) (by omega) d1 d2 d3 u1 u2 u3 u4
  have l2 := sc_le (d := 1000000) (s := b.rub) (t := ruS m) (by omega) d1 d2 u1 (Int.le_refl _)
  simp only [soS]
  omega
theorem healS_bd {b : Br} {m : Mr} (hb : BdB b) : 0 ≤ healS b m ∧ healS b m ≤ 1000 := by
  have := hb.heal
  unfold healS
  split <;> omega
/-- A valid animal is valid in the evening of a valid day on which it doesn't die. -/
theorem eve_bd {b : Br} {c : Cm} {m : Mr} (hb : BdB b) (hc : BdC b c) (hm : BdM m) : BdC b (eveC b c m) := by
  obtain ⟨w1, w2, w3⟩ := waS_bd c.milks hb hm
  obtain ⟨f1, f2, f3⟩ := faS_bd hb hm
  obtain ⟨s1, s2, s3⟩ := soS_bd hb hm
  obtain ⟨x1, x2, x3⟩ := hc.water
  obtain ⟨y1, y2, y3⟩ := hc.fat
  obtain ⟨z1, z2, z3⟩ := hc.sore
  obtain ⟨g1, g2, g3⟩ := hm.grass
  obtain ⟨d1, d2, d3⟩ := hm.drinks
  have hfull := hb.full
  have hfed := hb.fed
  constructor
  · obtain ⟨p1, p2, p3, p4⟩ := cl_bd (most := b.full) (s := ad (cl b.full (ls c.water (waS b c.milks m))) m.drinks) (by omega)
    exact ⟨p1, cl_le (ad_le (cl_le (ls_le x2 w2)) d2), p4⟩
  · obtain ⟨p1, p2, p3, p4⟩ := cl_bd (most := b.fed) (s := ad (cl b.fed (ls c.fat (faS b m))) m.grass) (by omega)
    exact ⟨p1, cl_le (ad_le (cl_le (ls_le y2 f2)) g2), p4⟩
  · obtain ⟨p1, p2, p3, p4⟩ := cl_bd (most := 1000) (s := ls (ad c.sore (soS b m)) (healS b m, healS b m)) (by omega)
    exact ⟨p1, cl_le (ls_le (ad_le z2 s2) (Int.le_refl _)), p4⟩
end Go.Proofs.Ytafdcbdbllpcnaa
