/- Plain functions, continued: what a day costs. -/
import Derived.Test.YtafdcbdbllpcnaaSpec
namespace Go.Proofs.Ytafdcbdbllpcnaa

/-- A product divided, rounded outwards; a sum of spans. -/
def sc (d : Int) (s t : Int × Int) : Int × Int := (s.1 * t.1 / d, (s.2 * t.2 + d - 1) / d)
def ad (s t : Int × Int) : Int × Int := (s.1 + t.1, s.2 + t.2)
/-- What a day is like: degrees above 20, the burden, the load that rubs. -/
def hsS (m : Mr) : Int × Int := (mx 0 (m.heat.1 - 20), mx 0 (m.heat.2 - 20))
def buS (m : Mr) : Int × Int := (m.hours * (100000 + m.load), m.hours * (100000 + m.load))
def ruS (m : Mr) : Int × Int := (m.hours * m.load, m.hours * m.load)
/-- What a day costs in water (without milk, and with it) and in fat, and how much sorer it makes. -/
def wa0S (b : Br) (m : Mr) : Int × Int := ad (ad b.rest (sc 1 b.heat (hsS m))) (sc 100000 b.toil (buS m))
def waS (b : Br) (k : Bool) (m : Mr) : Int × Int := if k then ad (wa0S b m) b.milk else wa0S b m
def faS (b : Br) (m : Mr) : Int × Int := sc 100000 b.burn (buS m)
def soS (b : Br) (m : Mr) : Int × Int := sc 1000000 b.rub (ruS m)

theorem hsS_bd {m : Mr} (hm : BdM m) : 0 ≤ (hsS m).1 ∧ (hsS m).1 ≤ 40 ∧ 0 ≤ (hsS m).2 ∧ (hsS m).2 ≤ 40 := by
  have := hm.heat
  simp only [hsS, mx]
  refine ⟨?_, ?_, ?_, ?_⟩ <;> split <;> omega
theorem buS_bd {m : Mr} (hm : BdM m) : 0 ≤ (buS m).1 ∧ (buS m).1 ≤ 26400000 ∧ 0 ≤ (buS m).2 ∧ (buS m).2 ≤ 26400000 := by
  obtain ⟨h1, h2⟩ := hm.hours
  obtain ⟨l1, l2⟩ := hm.load
  have := mul_le h1 (by omega : 0 ≤ 100000 + m.load) h2 (by omega : 100000 + m.load ≤ 1100000)
  simp only [buS]
  omega
theorem ruS_bd {m : Mr} (hm : BdM m) : 0 ≤ (ruS m).1 ∧ (ruS m).1 ≤ 24000000 ∧ 0 ≤ (ruS m).2 ∧ (ruS m).2 ≤ 24000000 := by
  obtain ⟨h1, h2⟩ := hm.hours
  obtain ⟨l1, l2⟩ := hm.load
  have := mul_le h1 l1 h2 l2
  simp only [ruS]
  omega
theorem sc_bd {d : Int} {s t : Int × Int} {x y : Int} (hd : 1 ≤ d) (s1 : 0 ≤ s.1) (s2 : s.1 ≤ s.2) (s3 : s.2 ≤ x) (t1 : 0 ≤ t.1) (t2 : t.1 ≤ y) (t3 : 0 ≤ t.2) (t4 : t.2 ≤ y) :
    0 ≤ s.1 * t.1 ∧ s.1 * t.1 ≤ x * y ∧ 0 ≤ s.2 * t.2 ∧ s.2 * t.2 ≤ x * y ∧ 0 ≤ (sc d s t).1 ∧ (sc d s t).1 ≤ x * y ∧ 0 ≤ (sc d s t).2 ∧ (sc d s t).2 ≤ x * y := by
  obtain ⟨a1, a2⟩ := mul_le s1 t1 (Int.le_trans s2 s3) t2
  obtain ⟨a3, a4⟩ := mul_le (Int.le_trans s1 s2) t3 s3 t4
  have b1 : 0 ≤ s.1 * t.1 / d := Int.ediv_nonneg a1 (by omega)
  have b2 : s.1 * t.1 / d ≤ s.1 * t.1 := Int.ediv_le_self _ a1
  have b3 : 0 ≤ (s.2 * t.2 + d - 1) / d := Int.ediv_nonneg (by omega) (by omega)
  have b4 : (s.2 * t.2 + d - 1) / d ≤ s.2 * t.2 := by
    by_cases h : s.2 * t.2 = 0
    · rw [h]
      have : (0 + d - 1) / d = 0 := Int.ediv_eq_zero_of_lt (by omega) (by omega)
      omega
    · refine Int.le_of_lt_add_one ?_
      rw [Int.ediv_lt_iff_lt_mul (by omega)]
      have : 1 * d ≤ s.2 * t.2 * d := Int.mul_le_mul_of_nonneg_right (by omega) (by omega)
      rw [Int.add_mul]
      have h5 : s.2 * t.2 * 1 ≤ s.2 * t.2 * d := Int.mul_le_mul_of_nonneg_left (by omega) (by omega)
      omega
  simp only [sc]
  exact ⟨a1, a2, a3, a4, b1, by omega, b3, by omega⟩
/-- The cost in water as the reference adds it up. -/
def wa0R (b : Br) (m : Mr) : Int × Int := (b.rest.1 + b.heat.1 * (hsS m).1 + b.toil.1 * (buS m).1 / 100000, b.rest.2 + b.heat.2 * (hsS m).2 + (b.toil.2 * (buS m).2 + 100000 - 1) / 100000)
theorem wa0R_eq (b : Br) (m : Mr) : wa0S b m = wa0R b m := by
  simp only [wa0S, wa0R, ad, sc, Int.ediv_one]
  rw [Int.add_sub_cancel]
/-- The error of a day's cost, and the cost. -/
def chkM (b : Br) (m : Mr) : Int := if okB b = true then (if okM m = true then 0 else 12) else 10
def coW (b : Br) (k : Bool) (m : Mr) : Int × Int := if chkM b m = 0 then waS b k m else (0, 0)
def coF (b : Br) (m : Mr) : Int × Int := if chkM b m = 0 then faS b m else (0, 0)
/-- An animal without water, fat and sores. -/
def zc (k : Bool) : Cm := ⟨(0, 0), (0, 0), (0, 0), k⟩
end Go.Proofs.Ytafdcbdbllpcnaa
