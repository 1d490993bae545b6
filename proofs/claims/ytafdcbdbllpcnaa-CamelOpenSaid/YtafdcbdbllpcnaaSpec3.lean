/- Contracts over lists of days: package camel's checkTrip and the reference's asked. -/
import Derived.Test.YtafdcbdbllpcnaaLeafI
import Derived.Test.YtafdcbdbllpcnaaRefF
import Derived.Test.YtafdcbdbllpcnaaSpec2
namespace Go.Proofs.Ytafdcbdbllpcnaa
open Go.RowKit
open Go.Proofs

attribute [local go_sem ↓] exec36l exec112l exec36s exec112s exec31s run_min2 run_max2
attribute [local go_sem] load36 load112 store36 store112 store31 build112 rowOf_alloc rowOf_drew setRow_alloc one_int one_bool run_min4

/-- A list of days that was handed over: nil, or so many that lie one behind the other. -/
def DaysIn (w : World) (a : Option Addr) (cap : Nat) (ms : List Mr) : Prop :=
  (a = none ∧ cap = 0 ∧ ms = []) ∨ ∃ b off, a = some ⟨b, off, none⟩ ∧ MarchesAt w b off ms ∧ b < w.heap.size
theorem march_below {B : Nat} {w w' : World} {b o : Nat} {m : Mr} (hB : Below B w w') (hb : b < B) (h : MarchAt w b o m) : MarchAt w' b o m := by
  obtain ⟨c0, c1, c2, c3, c4, c5, c6, c7⟩ := h
  exact ⟨at_belowb hB hb c0, at_belowb hB hb c1, at_belowb hB hb c2, at_belowb hB hb c3, at_belowb hB hb c4, at_belowb hB hb c5, at_belowb hB hb c6, at_belowb hB hb c7⟩
theorem marches_below {B : Nat} {w w' : World} {b off : Nat} {ms : List Mr} (hB : Below B w w') (hb : b < B) (h : MarchesAt w b off ms) : MarchesAt w' b off ms :=
  fun k hk => march_below hB hb (h k hk)
theorem DaysIn.below {B : Nat} {w w' : World} {a : Option Addr} {cap : Nat} {ms : List Mr} (h : DaysIn w a cap ms) (hB : Below B w w') (hs : w.heap.size ≤ B) (hz : w.heap.size ≤ w'.heap.size) : DaysIn w' a cap ms := by
  rcases h with h | ⟨b, off, h1, h3, h4⟩
  · exact .inl h
  · exact .inr ⟨b, off, h1, marches_below hB (by omega) h3, by omega⟩

theorem checkMarches_in (a : Option Addr) (cap : Nat) (ms : List Mr) (x : Int) (hx : (if ms.all okM = true then (0 : Int) else 12) = x) (w : World) (h : DaysIn w a cap ms) (hl : ms.length ≤ 100000) :
    Calls Try.prog 63 #[.slice a ms.length cap] w fun e w' => e = .returned (.int .i64 x) ∧ Below w.heap.size w w' := by
  subst hx
  rcases h with ⟨rfl, rfl, rfl⟩ | ⟨b, off, rfl, h3, h4⟩
  · go_enter Try.func63, Try.ntmps63
    go_wp2
    go_rounds 1
    all_goals go_returns
    all_goals exact ⟨rfl, Below.refl _ _⟩
  · exact checkMarches_any b off cap ms w h3 h4 hl

/-- The error of an animal and days. -/
def chkT (b : Br) (c : Cm) (ms : List Mr) : Int := if chkC b c = 0 then (if 60 < ms.length then 4 else if ms.all okM = true then 0 else 12) else chkC b c

theorem chkC_x (b : Br) (c : Cm) (x : Int) (hx : chkC b c = x) (w : World) :
    Calls Try.prog 33 #[.agg #[.int .i64 b.full, .int .i64 b.fed, .int .i64 b.rest.1, .int .i64 b.rest.2, .int .i64 b.heat.1, .int .i64 b.heat.2, .int .i64 b.toil.1, .int .i64 b.toil.2, .int .i64 b.burn.1, .int .i64 b.burn.2, .int .i64 b.rub.1, .int .i64 b.rub.2, .int .i64 b.milk.1, .int .i64 b.milk.2, .int .i64 b.heal, .int .i64 b.strong.1, .int .i64 b.strong.2], .agg #[.int .i64 c.water.1, .int .i64 c.water.2, .int .i64 c.fat.1, .int .i64 c.fat.2, .int .i64 c.sore.1, .int .i64 c.sore.2, .bool c.milks]] w fun e w' => e = .returned (.int .i64 x) ∧ Below w.heap.size w w' := by
  subst hx; exact CheckCamel_any b c w
theorem rchkC_x (b : Br) (c : Cm) (x : Int) (hx : chkC b c = x) (w : World) :
    Calls Try.prog 34 #[.agg #[.int .i64 b.full, .int .i64 b.fed, .int .i64 b.rest.1, .int .i64 b.rest.2, .int .i64 b.heat.1, .int .i64 b.heat.2, .int .i64 b.toil.1, .int .i64 b.toil.2, .int .i64 b.burn.1, .int .i64 b.burn.2, .int .i64 b.rub.1, .int .i64 b.rub.2, .int .i64 b.milk.1, .int .i64 b.milk.2, .int .i64 b.heal, .int .i64 b.strong.1, .int .i64 b.strong.2], .agg #[.int .i64 c.water.1, .int .i64 c.water.2, .int .i64 c.fat.1, .int .i64 c.fat.2, .int .i64 c.sore.1, .int .i64 c.sore.2, .bool c.milks]] w fun e w' => e = .returned (.int .i64 x) ∧ Below w.heap.size w w' := by
  subst hx; exact rCheckCamel_any b c w

set_option maxRecDepth 100000 in
set_option maxHeartbeats 1000000 in
theorem checkTrip_any (b : Br) (c : Cm) (a : Option Addr) (cap : Nat) (ms : List Mr) (w : World) (h : DaysIn w a cap ms) (hl : ms.length ≤ 100000) :
    Calls Try.prog 57 #[.agg #[.int .i64 b.full, .int .i64 b.fed, .int .i64 b.rest.1, .int .i64 b.rest.2, .int .i64 b.heat.1, .int .i64 b.heat.2, .int .i64 b.toil.1, .int .i64 b.toil.2, .int .i64 b.burn.1, .int .i64 b.burn.2, .int .i64 b.rub.1, .int .i64 b.rub.2, .int .i64 b.milk.1, .int .i64 b.milk.2, .int .i64 b.heal, .int .i64 b.strong.1, .int .i64 b.strong.2], .agg #[.int .i64 c.water.1, .int .i64 c.water.2, .int .i64 c.fat.1, .int .i64 c.fat.2, .int .i64 c.sore.1, .int .i64 c.sore.2, .bool c.milks], .slice a ms.length cap] w fun e w' => e = .returned (.int .i64 (chkT b c ms)) ∧ Below w.heap.size w w' := by
  have HD := Lib.hid h
  obtain ⟨y, hy⟩ : ∃ y, (if ms.all okM = true then (0 : Int) else 12) = y := ⟨_, rfl⟩
  have HY := Lib.hid hy
  by_cases h0 : chkC b c = 0
  · have HC := Lib.hid h0
    by_cases h6 : 60 < ms.length
    · have hv : chkT b c ms = 4 := by simp [chkT, h0, h6]
      rw [hv]
      clear hv h0 hy h
      go_enter Try.func57, Try.ntmps57
      go_wp2_with fail
      refine (chkC_x b c _ HC.out _).mono ?_
      rintro e W1 ⟨rfl, hB⟩
      have hW1 : Below w.heap.size w W1 := Below.trans (by go_grown) (hB.mono (by simp; try omega))
      have zW1 := hW1.size
      clear hB
      go_wp2
      go_returns
      exact ⟨rfl, hW1⟩
    · have hv : chkT b c ms = y := by simp only [chkT, h0, h6, if_true, if_false]; exact hy
      rw [hv]
      clear hv h0 hy h
      go_enter Try.func57, Try.ntmps57
      go_wp2_with fail
      refine (chkC_x b c _ HC.out _).mono ?_
      rintro e W1 ⟨rfl, hB⟩
      have hW1 : Below w.heap.size w W1 := Below.trans (by go_grown) (hB.mono (by simp; try omega))
      have zW1 := hW1.size
      clear hB
      have hD1 := Lib.hid (HD.out.below hW1 (Nat.le_refl _) zW1)
      go_wp2_with fail
      refine (checkMarches_in a cap ms y HY.out W1 hD1.out hl).mono ?_
      rintro e W2 ⟨rfl, hB⟩
      have hW2 : Below w.heap.size w W2 := hW1.trans (Below.trans (by have := hW1.size; go_grown) (hB.mono (by have := hW1.size; simp; try omega)))
      have zW2 := hW2.size
      clear hB
      go_wp2
      go_returns
      exact ⟨rfl, hW2⟩
  · obtain ⟨x, hx⟩ : ∃ x, chkC b c = x := ⟨_, rfl⟩
    have hv : chkT b c ms = x := by simp only [chkT, h0, if_false]; exact hx
    rw [hv]
    rw [hx] at h0
    have HC := Lib.hid hx
    have hne : (x == 0) = false := by simpa using h0
    clear hv h0 hy hx h
    go_enter Try.func57, Try.ntmps57
    go_wp2_with fail
    refine (chkC_x b c _ HC.out _).mono ?_
    rintro e W1 ⟨rfl, hB⟩
    have hW1 : Below w.heap.size w W1 := Below.trans (by go_grown) (hB.mono (by simp; try omega))
    have zW1 := hW1.size
    clear hB
    go_wp2
    go_returns
    exact ⟨rfl, hW1⟩

set_option maxRecDepth 100000 in
set_option maxHeartbeats 1000000 in
theorem asked_some (b : Br) (c : Cm) (g off cap : Nat) (ms : List Mr) (w : World) (h : MarchesAt w g off ms) (hg : g < w.heap.size) (h0 : chkC b c = 0) (h6 : ms.length ≤ 60) :
    Calls Try.prog 76 #[.agg #[.int .i64 b.full, .int .i64 b.fed, .int .i64 b.rest.1, .int .i64 b.rest.2, .int .i64 b.heat.1, .int .i64 b.heat.2, .int .i64 b.toil.1, .int .i64 b.toil.2, .int .i64 b.burn.1, .int .i64 b.burn.2, .int .i64 b.rub.1, .int .i64 b.rub.2, .int .i64 b.milk.1, .int .i64 b.milk.2, .int .i64 b.heal, .int .i64 b.strong.1, .int .i64 b.strong.2], .agg #[.int .i64 c.water.1, .int .i64 c.water.2, .int .i64 c.fat.1, .int .i64 c.fat.2, .int .i64 c.sore.1, .int .i64 c.sore.2, .bool c.milks], .slice (some ⟨g, off, none⟩) ms.length cap] w fun e w' => e = .returned (.int .i64 (if ms.all okM = true then 0 else 12)) ∧ Below w.heap.size w w' := by
  obtain ⟨y, hy⟩ : ∃ y, (if ms.all okM = true then (0 : Int) else 12) = y := ⟨_, rfl⟩
  rw [hy]
  have HX := Lib.hid hy
  have HC := Lib.hid h0
  have HS := Lib.hid h
  clear hy h0 h
  go_enter Try.func76, Try.ntmps76
  go_wp2_with fail
  refine (rchkC_x b c _ HC.out _).mono ?_
  rintro e W1 ⟨rfl, hB⟩
  have hW1 : Below w.heap.size w W1 := Below.trans (by go_grown) (hB.mono (by simp; try omega))
  have zW1 := hW1.size
  clear hB
  go_wp2_with fail
  go_loopw [8] (fun i wr => ∃ k : Nat, k ≤ ms.length ∧ i = .int .i64 k ∧ Hid ((ms.take k).all okM = true) ∧ Below w.heap.size w wr) (fun i _ => ms.length - (intOf i).toNat)
  case atStart => exact ⟨0, Nat.zero_le _, rfl, by simp [Hid], hW1⟩
  case round =>
    obtain ⟨k, hk, rfl, hall, hB0⟩ := hrel
    have hz := hB0.size
    by_cases hlt : k < ms.length
    · obtain ⟨c0, c1, c2, c3, c4, c5, c6, c7⟩ := march_below hB0 hg (HS.out k hlt)
      generalize hm : ms[k] = m at *
      have Hm := Lib.hid hm
      clear hm
      have hlt' : (k : Int) < (ms.length : Int) := by omega
      cases hok : okM m with
      | false =>
        have HN := Lib.hid hok
        clear hok
        go_wp2_with fail
        refine (rMarch_x m _ HN.out _).mono ?_
        rintro e W ⟨rfl, hB⟩
        have hw : Below w.heap.size w W := hB0.trans (hB.mono (by first | exact hz | (simp; omega)))
        clear hB
        go_wp2
        go_returns
        exact ⟨ret_int (by rw [← HX.out, if_neg (by rw [all_noM ms k hlt (by rw [Hm.out]; exact HN.out)]; simp)]), hw⟩
      | true =>
        have HN := Lib.hid hok
        clear hok
        go_wp2_with fail
        refine (rMarch_x m _ HN.out _).mono ?_
        rintro e W ⟨rfl, hB⟩
        have hw : Below w.heap.size w W := hB0.trans (hB.mono (by first | exact hz | (simp; omega)))
        clear hB
        go_wp2
        exact ⟨⟨k + 1, by omega, by go_num, all_stepM ms k hlt hall.out (by rw [Hm.out]; exact HN.out), hw⟩, by simp [intOf]; omega⟩
    · obtain rfl : k = ms.length := by omega
      go_wp2
      go_returns
      have h := hall.out
      rw [List.take_length] at h
      exact ⟨ret_int (by rw [← HX.out, if_pos h]), hB0⟩

set_option maxRecDepth 100000 in
set_option maxHeartbeats 1000000 in
theorem asked_any (b : Br) (c : Cm) (a : Option Addr) (cap : Nat) (ms : List Mr) (w : World) (h : DaysIn w a cap ms) (hl : ms.length ≤ 100000) :
    Calls Try.prog 76 #[.agg #[.int .i64 b.full, .int .i64 b.fed, .int .i64 b.rest.1, .int .i64 b.rest.2, .int .i64 b.heat.1, .int .i64 b.heat.2, .int .i64 b.toil.1, .int .i64 b.toil.2, .int .i64 b.burn.1, .int .i64 b.burn.2, .int .i64 b.rub.1, .int .i64 b.rub.2, .int .i64 b.milk.1, .int .i64 b.milk.2, .int .i64 b.heal, .int .i64 b.strong.1, .int .i64 b.strong.2], .agg #[.int .i64 c.water.1, .int .i64 c.water.2, .int .i64 c.fat.1, .int .i64 c.fat.2, .int .i64 c.sore.1, .int .i64 c.sore.2, .bool c.milks], .slice a ms.length cap] w fun e w' => e = .returned (.int .i64 (chkT b c ms)) ∧ Below w.heap.size w w' := by
  by_cases h0 : chkC b c = 0
  · by_cases h6 : 60 < ms.length
    · have hv : chkT b c ms = 4 := by simp [chkT, h0, h6]
      rw [hv]
      have HC := Lib.hid h0
      clear hv h0 h
      go_enter Try.func76, Try.ntmps76
      go_wp2_with fail
      refine (rchkC_x b c _ HC.out _).mono ?_
      rintro e W1 ⟨rfl, hB⟩
      have hW1 : Below w.heap.size w W1 := Below.trans (by go_grown) (hB.mono (by simp; try omega))
      have zW1 := hW1.size
      clear hB
      go_wp2
      go_returns
      exact ⟨rfl, hW1⟩
    · have hv : chkT b c ms = if ms.all okM = true then (0 : Int) else 12 := by simp only [chkT, h0, h6, if_true, if_false]
      rw [hv]
      rcases h with ⟨rfl, rfl, rfl⟩ | ⟨g, off, rfl, h3, h4⟩
      · have HC := Lib.hid h0
        clear h0 hv
        go_enter Try.func76, Try.ntmps76
        go_wp2_with fail
        refine (rchkC_x b c _ HC.out _).mono ?_
        rintro e W1 ⟨rfl, hB⟩
        have hW1 : Below w.heap.size w W1 := Below.trans (by go_grown) (hB.mono (by simp; try omega))
        have zW1 := hW1.size
        clear hB
        go_wp2_with fail
        go_rounds 1
        all_goals go_returns
        all_goals exact ⟨rfl, hW1⟩
      · exact asked_some b c g off cap ms w h3 h4 h0 (by omega)
  · obtain ⟨x, hx⟩ : ∃ x, chkC b c = x := ⟨_, rfl⟩
    have hv : chkT b c ms = x := by simp only [chkT, h0, if_false]; exact hx
    rw [hv]
    rw [hx] at h0
    have HC := Lib.hid hx
    have hne : (x == 0) = false := by simpa using h0
    clear hv h0 hx h
    go_enter Try.func76, Try.ntmps76
    go_wp2_with fail
    refine (rchkC_x b c _ HC.out _).mono ?_
    rintro e W1 ⟨rfl, hB⟩
    have hW1 : Below w.heap.size w W1 := Below.trans (by go_grown) (hB.mono (by simp; try omega))
    have zW1 := hW1.size
    clear hB
    go_wp2
    go_returns
    exact ⟨rfl, hW1⟩
end Go.Proofs.Ytafdcbdbllpcnaa
/- Plain functions, continued: an animal in the evening of a day. -/
namespace Go.Proofs.Ytafdcbdbllpcnaa

/-- A span moved into 0 to a number; what is left of one; what an animal has after it lost some and got some. -/
def cl (most : Int) (s : Int × Int) : Int × Int := (mn (mx s.1 0) most, mn (mx s.2 0) most)
def ls (s t : Int × Int) : Int × Int := (s.1 - t.2, s.2 - t.1)
def refS (most : Int) (h k g : Int × Int) : Int × Int := cl most (ad (cl most (ls h k)) g)
def healS (b : Br) (m : Mr) : Int := if m.hours = 0 then b.heal else 0
/-- An animal in the evening of a day; its fate. -/
def soreS (b : Br) (c : Cm) (m : Mr) : Int × Int := cl 1000 (ls (ad c.sore (soS b m)) (healS b m, healS b m))
def eveC (b : Br) (c : Cm) (m : Mr) : Cm := ⟨refS b.full c.water (waS b c.milks m) m.drinks, refS b.fed c.fat (faS b m) m.grass, soreS b c m, c.milks⟩
def diesS (b : Br) (c : Cm) (m : Mr) : Bool := decide (c.water.2 < (waS b c.milks m).1) || decide (c.fat.2 < (faS b m).1)
def openS (b : Br) (c : Cm) (m : Mr) : Bool := decide (c.water.1 < (waS b c.milks m).2) || decide (c.fat.1 < (faS b m).2)
def fateS (b : Br) (c : Cm) (m : Mr) : Int := if diesS b c m = true then 2 else if openS b c m = true then 1 else 0

theorem cl_bd {most : Int} {s : Int × Int} (h : 0 ≤ most) : 0 ≤ (cl most s).1 ∧ (cl most s).1 ≤ most ∧ 0 ≤ (cl most s).2 ∧ (cl most s).2 ≤ most := by
  simp only [cl, mn, mx]
  refine ⟨?_, ?_, ?_, ?_⟩ <;> (repeat' split) <;> omega
theorem cl_le {most : Int} {s : Int × Int} (h : s.1 ≤ s.2) : (cl most s).1 ≤ (cl most s).2 := by
  simp only [cl, mn, mx]
  (repeat' split) <;> omega
theorem ad_le {s t : Int × Int} (h : s.1 ≤ s.2) (k : t.1 ≤ t.2) : (ad s t).1 ≤ (ad s t).2 := by simp only [ad]; omega
theorem ls_le {s t : Int × Int} (h : s.1 ≤ s.2) (k : t.1 ≤ t.2) : (ls s t).1 ≤ (ls s t).2 := by simp only [ls]; omega
theorem sc_le {d : Int} {s t : Int × Int} (hd : 1 ≤ d) (s1 : 0 ≤ s.1) (s2 : s.1 ≤ s.2) (t1 : 0 ≤ t.1) (t2 : t.1 ≤ t.2) : (sc d s t).1 ≤ (sc d s t).2 := by
  have h := Int.mul_le_mul s2 t2 t1 (by omega)
  exact Int.ediv_le_ediv (by omega) (by omega)
theorem hsS_le {m : Mr} (hm : BdM m) : (hsS m).1 ≤ (hsS m).2 := by
  have := hm.heat
  simp only [hsS, mx]
  (repeat' split) <;> omega
theorem waS_bd {b : Br} {m : Mr} (k : Bool) (hb : BdB b) (hm : BdM m) : 0 ≤ (waS b k m).1 ∧ (waS b k m).1 ≤ (waS b k m).2 ∧ (waS b k m).2 ≤ 100000000000000 := by
  obtain ⟨h1, h2, h3, h4⟩ := hsS_bd hm
  obtain ⟨u1, u2, u3, u4⟩ := buS_bd hm
  obtain ⟨a1, a2, a3⟩ := hb.rest
  obtain ⟨b1, b2, b3⟩ := hb.heat
  obtain ⟨c1, c2, c3⟩ := hb.toil
  obtain ⟨f1, f2, f3⟩ := hb.milk
  obtain ⟨-, -, -, -, x1, x2, x3, x4⟩ := sc_bd (d := 1) (by omega) b1 b2 b3 h1 h2 h3 h4
  obtain ⟨-, -, -, -, y1, y2, y3, y4⟩ := sc_bd (d := 100000) (by omega) c1 c2 c3 u1 u2 u3 u4
  have l1 := sc_le (d := 1) (by omega) b1 b2 h1 (hsS_le hm)
  have l2 := sc_le (d := 100000) (s := b.toil) (t := buS m) (by omega) c1 c2 u1 (Int.le_refl _)
  cases k <;> simp only [waS, wa0S, ad, if_true, Bool.false_eq_true, if_false] <;> omega
theorem faS_bd {b : Br} {m : Mr} (hb : BdB b) (hm : BdM m) : 0 ≤ (faS b m).1 ∧ (faS b m).1 ≤ (faS b m).2 ∧ (faS b m).2 ≤ 100000000000000 := by
  obtain ⟨u1, u2, u3, u4⟩ := buS_bd hm
  obtain ⟨d1, d2, d3⟩ := hb.burn
  obtain ⟨-, -, -, -, y1, y2, y3, y4⟩ := sc_bd (d := 100000) (by omega) d1 d2 d3 u1 u2 u3 u4
  have l2 := sc_le (d := 100000) (s := b.burn) (t := buS m) (by omega) d1 d2 u1 (Int.le_refl _)
  simp only [faS]
  omega
theorem soS_bd {b : Br} {m : Mr} (hb : BdB b) (hm : BdM m) : 0 ≤ (soS b m).1 ∧ (soS b m).1 ≤ (soS b m).2 ∧ (soS b m).2 ≤ 100000000000000 := by
  obtain ⟨u1, u2, u3, u4⟩ := ruS_bd hm
  obtain ⟨d1, d2, d3⟩ := hb.rub
  obtain ⟨-, -, -, -, y1, y2, y3, y4⟩ := sc_bd (d := 1000000) (by omega) d1 d2 d3 u1 u2 u3 u4
  have l2 := sc_le (d := 1000000) (s := b.rub) (t := ruS m) (by omega) d1 d2 u1 (Int.le_refl _)
  simp only [soS]
  omega
theorem healS_bd {b : Br} {m : Mr} (hb : BdB b) : 0 ≤ healS b m ∧ healS b m ≤ 1000 := by
  have := hb.heal
  unfold healS
  split <;> omega
/-- A valid animal is valid in the evening of a valid day on which it doesn't die. -/
theorem eve_bd {b : Br} {c : Cm} {m : Mr} (hb : BdB b) (hc : BdC b c) (hm : BdM m) : BdC b (eveC b c m) := by
  obtain ⟨w1, w2, w3⟩ := waS_bd c.milks hb hm
  obtain ⟨f1, f2, f3⟩ := faS_bd hb hm
  obtain ⟨s1, s2, s3⟩ := soS_bd hb hm
  obtain ⟨x1, x2, x3⟩ := hc.water
  obtain ⟨y1, y2, y3⟩ := hc.fat
  obtain ⟨z1, z2, z3⟩ := hc.sore
  obtain ⟨g1, g2, g3⟩ := hm.grass
  obtain ⟨d1, d2, d3⟩ := hm.drinks
  have hfull := hb.full
  have hfed := hb.fed
  constructor
  · obtain ⟨p1, p2, p3, p4⟩ := cl_bd (most := b.full) (s := ad (cl b.full (ls c.water (waS b c.milks m))) m.drinks) (by omega)
    exact ⟨p1, cl_le (ad_le (cl_le (ls_le x2 w2)) d2), p4⟩
  · obtain ⟨p1, p2, p3, p4⟩ := cl_bd (most := b.fed) (s := ad (cl b.fed (ls c.fat (faS b m))) m.grass) (by omega)
    exact ⟨p1, cl_le (ad_le (cl_le (ls_le y2 f2)) g2), p4⟩
  · obtain ⟨p1, p2, p3, p4⟩ := cl_bd (most := 1000) (s := ls (ad c.sore (soS b m)) (healS b m, healS b m)) (by omega)
    exact ⟨p1, cl_le (ls_le (ad_le z2 s2) (Int.le_refl _)), p4⟩
end Go.Proofs.Ytafdcbdbllpcnaa
