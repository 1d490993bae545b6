/- Contract of package camel's Heaviest. -/
import Derived.Test.YtafdcbdbllpcnaaGreatA
import Derived.Test.YtafdcbdbllpcnaaMtCl
set_option linter.unusedVariables false
set_option linter.unusedSimpArgs false
namespace Go.Proofs.Ytafdcbdbllpcnaa
open Go.RowKit Go.Shelf
open Go.Proofs

attribute [local go_sem ↓] exec36l exec112l exec36s exec112s exec31s run_min2 run_max2
attribute [local go_sem] load36 load112 store36 store112 store31 build112 rowOf_alloc rowOf_drew setRow_alloc one_int one_bool run_min4
attribute [local go_sem ↓] exec39s
attribute [local go_sem] store39 rowOf_setCell_if Option.map_some

theorem chkT_y (b : Br) (c : Cm) (a : Option Addr) (cap n : Nat) (ms : List Mr) (x : Int) (hn : n = ms.length) (hx : chkT b c ms = x) (w : World) (h : DaysIn w a cap ms) (hl : ms.length ≤ 100000) :
    Calls Try.prog 57 #[.agg #[.int .i64 b.full, .int .i64 b.fed, .int .i64 b.rest.1, .int .i64 b.rest.2, .int .i64 b.heat.1, .int .i64 b.heat.2, .int .i64 b.toil.1, .int .i64 b.toil.2, .int .i64 b.burn.1, .int .i64 b.burn.2, .int .i64 b.rub.1, .int .i64 b.rub.2, .int .i64 b.milk.1, .int .i64 b.milk.2, .int .i64 b.heal, .int .i64 b.strong.1, .int .i64 b.strong.2], .agg #[.int .i64 c.water.1, .int .i64 c.water.2, .int .i64 c.fat.1, .int .i64 c.fat.2, .int .i64 c.sore.1, .int .i64 c.sore.2, .bool c.milks], .slice a n cap] w fun e w' => e = .returned (.int .i64 x) ∧ Below w.heap.size w w' := by
  subst hn hx; exact checkTrip_any b c a cap ms w h hl
theorem chkT_fine {b : Br} {c : Cm} {ms : List Mr} (h : chkT b c ms = 0) : BdB b ∧ BdC b c ∧ ms.all okM = true ∧ ms.length ≤ 60 := by
  unfold chkT at h
  by_cases h0 : chkC b c = 0
  · simp only [h0, if_true] at h
    by_cases h6 : 60 < ms.length
    · simp [h6] at h
    · simp only [h6, if_false] at h
      cases hm : ms.all okM with
      | false => simp [hm] at h
      | true => exact ⟨(chkC_ok h0).1, (chkC_ok h0).2, rfl, by omega⟩
  · simp only [h0, if_false] at h

theorem heavyF_any (b : Br) (c : Cm) (a : Option Addr) (cap n : Nat) (ms : List Mr) (x : Int) (r : Bool) (hr : bearS b c ms x = r) (g1 g2 : Nat) (w : World) (r1 : rowOf w g1 = some #[.int .i64 b.full, .int .i64 b.fed, .int .i64 b.rest.1, .int .i64 b.rest.2, .int .i64 b.heat.1, .int .i64 b.heat.2, .int .i64 b.toil.1, .int .i64 b.toil.2, .int .i64 b.burn.1, .int .i64 b.burn.2, .int .i64 b.rub.1, .int .i64 b.rub.2, .int .i64 b.milk.1, .int .i64 b.milk.2, .int .i64 b.heal, .int .i64 b.strong.1, .int .i64 b.strong.2, .int .i64 c.water.1, .int .i64 c.water.2, .int .i64 c.fat.1, .int .i64 c.fat.2, .int .i64 c.sore.1, .int .i64 c.sore.2, .bool c.milks]) (r2 : rowOf w g2 = some #[.slice a n cap])
    (hn : n = ms.length) (h : DaysIn w a cap ms) (h6 : ms.length ≤ 60) (hb : BdB b) (hc : BdC b c) (hall : ms.all okM = true) (hx1 : 0 ≤ x) (hx2 : x ≤ 1000000) :
    Calls Try.prog 60 #[.int .i64 x, .pointer (some ⟨g1, 0, none⟩), .pointer (some ⟨g2, 0, none⟩)] w fun e w' => e = .returned (.bool r) ∧ Below w.heap.size w w' := by
  obtain ⟨r1E, c1E, g1E, z1E⟩ := row_facts r1
  obtain ⟨r2E, c2E, g2E, z2E⟩ := row_facts r2
  have HC := Lib.hid (bears_any b c a cap n ms x r hr w hn h h6 hb hc hall hx1 hx2)
  clear hr hn h h6 hb hc hall hx1 hx2 r1 r2
  go_enter Try.func60, Try.ntmps60
  go_wp2_with fail
  refine HC.out.mono ?_
  rintro e W1 ⟨rfl, hW1⟩
  go_wp2
  go_returns
  exact ⟨rfl, hW1⟩

theorem Heaviest_bad (b : Br) (c : Cm) (a : Option Addr) (cap n : Nat) (ms : List Mr) (x : Int) (w : World) (hn : n = ms.length) (h : DaysIn w a cap ms) (hl : ms.length ≤ 100000) (hx : chkT b c ms = x) (h0 : x ≠ 0) :
    Calls Try.prog 21 #[.agg #[.int .i64 b.full, .int .i64 b.fed, .int .i64 b.rest.1, .int .i64 b.rest.2, .int .i64 b.heat.1, .int .i64 b.heat.2, .int .i64 b.toil.1, .int .i64 b.toil.2, .int .i64 b.burn.1, .int .i64 b.burn.2, .int .i64 b.rub.1, .int .i64 b.rub.2, .int .i64 b.milk.1, .int .i64 b.milk.2, .int .i64 b.heal, .int .i64 b.strong.1, .int .i64 b.strong.2], .agg #[.int .i64 c.water.1, .int .i64 c.water.2, .int .i64 c.fat.1, .int .i64 c.fat.2, .int .i64 c.sore.1, .int .i64 c.sore.2, .bool c.milks], .slice a n cap] w fun e w' => e = .returned (.tuple #[.int .i64 0, .int .i64 x]) ∧ Below w.heap.size w w' := by
  have HX := Lib.hid hx
  have HD := Lib.hid h
  have HN := Lib.hid hn
  have hne : (x == 0) = false := by simpa using h0
  clear hx h hn
  go_enter Try.func21, Try.ntmps21
  go_wp2_with fail
  refine (chkT_y b c a cap n ms x HN.out HX.out _ (HD.out.below (B := w.heap.size) (by go_grown) (Nat.le_refl _) (by simp; omega)) hl).mono ?_
  rintro e W1 ⟨rfl, hB⟩
  have hW1 : Below w.heap.size w W1 := Below.trans (by go_grown) (hB.mono (by simp; try omega))
  have zW1 := hW1.size
  clear hB
  go_wp2
  go_returns
  exact ⟨rfl, hW1⟩

set_option maxRecDepth 100000 in
set_option maxHeartbeats 2000000 in
theorem Heaviest_ok (b : Br) (c : Cm) (a : Option Addr) (cap n : Nat) (ms : List Mr) (R : Int) (q : Bool) (w : World) (hn : n = ms.length) (h : DaysIn w a cap ms) (hl : ms.length ≤ 100000) (hx : chkT b c ms = 0) (hR : binGo (bearS b c ms) 1000000 0 1000000 = R) (hq : bearS b c ms 0 = q) :
    Calls Try.prog 21 #[.agg #[.int .i64 b.full, .int .i64 b.fed, .int .i64 b.rest.1, .int .i64 b.rest.2, .int .i64 b.heat.1, .int .i64 b.heat.2, .int .i64 b.toil.1, .int .i64 b.toil.2, .int .i64 b.burn.1, .int .i64 b.burn.2, .int .i64 b.rub.1, .int .i64 b.rub.2, .int .i64 b.milk.1, .int .i64 b.milk.2, .int .i64 b.heal, .int .i64 b.strong.1, .int .i64 b.strong.2], .agg #[.int .i64 c.water.1, .int .i64 c.water.2, .int .i64 c.fat.1, .int .i64 c.fat.2, .int .i64 c.sore.1, .int .i64 c.sore.2, .bool c.milks], .slice a n cap] w fun e w' => e = .returned (.tuple (if q = true then #[.int .i64 R, .int .i64 0] else #[.int .i64 0, .int .i64 13])) ∧ Below w.heap.size w w' := by
  have HX := Lib.hid hx
  have HD := Lib.hid h
  have HN := Lib.hid hn
  have HR := Lib.hid hR
  have HQ := Lib.hid hq
  clear hx h hn hR hq
  go_enter Try.func21, Try.ntmps21
  go_wp2_with fail
  refine (chkT_y b c a cap n ms 0 HN.out HX.out _ (HD.out.below (B := w.heap.size) (by go_grown) (Nat.le_refl _) (by simp; omega)) hl).mono ?_
  rintro e W1 ⟨rfl, hB⟩
  have hW1 : Below w.heap.size w W1 := Below.trans (by go_grown) (hB.mono (by simp; try omega))
  have zW1 := hW1.size
  obtain ⟨raW1, caW1, gaW1, zaW1⟩ := keep_row hB (g := w.heap.size) (by repeat (first | with_reducible assumption | with_reducible apply row_here0 | with_reducible apply row_here1 | with_reducible apply row_here2 | with_reducible apply row_here3 | with_reducible apply rowSkip))
  obtain ⟨rbW1, cbW1, gbW1, zbW1⟩ := keep_row hB (g := w.heap.size + 1) (by repeat (first | with_reducible assumption | with_reducible apply row_here0 | with_reducible apply row_here1 | with_reducible apply row_here2 | with_reducible apply row_here3 | with_reducible apply rowSkip))
  obtain ⟨rsW1, csW1, gsW1, zsW1⟩ := keep_row hB (g := w.heap.size + 1 + 1) (by repeat (first | with_reducible assumption | with_reducible apply row_here0 | with_reducible apply row_here1 | with_reducible apply row_here2 | with_reducible apply row_here3 | with_reducible apply rowSkip))
  clear hB
  go_wp2_with fail
  refine (atWork_any b c _).mono ?_
  rintro e W2 ⟨rfl, hB⟩
  have hW2 : Below w.heap.size w W2 := hW1.trans (Below.trans (by have := hW1.size; go_grown) (hB.mono (by have := hW1.size; simp; try omega)))
  have zW2 := hW2.size
  obtain ⟨raW2, caW2, gaW2, zaW2⟩ := keep_row hB (g := w.heap.size) (by repeat (first | with_reducible assumption | with_reducible apply row_here0 | with_reducible apply row_here1 | with_reducible apply row_here2 | with_reducible apply row_here3 | with_reducible apply rowSkip))
  obtain ⟨rbW2, cbW2, gbW2, zbW2⟩ := keep_row hB (g := w.heap.size + 1) (by repeat (first | with_reducible assumption | with_reducible apply row_here0 | with_reducible apply row_here1 | with_reducible apply row_here2 | with_reducible apply row_here3 | with_reducible apply rowSkip))
  obtain ⟨rsW2, csW2, gsW2, zsW2⟩ := keep_row hB (g := w.heap.size + 1 + 1) (by repeat (first | with_reducible assumption | with_reducible apply row_here0 | with_reducible apply row_here1 | with_reducible apply row_here2 | with_reducible apply row_here3 | with_reducible apply rowSkip))
  clear hB
  clear raW1 caW1 gaW1 rbW1 cbW1 gbW1 rsW1 csW1 gsW1
  go_wp2_with fail
  have hK := greatest_any (bearS b c ms) W2.heap.size (w.heap.size + 1 + 1) (W2.alloc (.cells #[.int .i64 b.full, .int .i64 b.fed, .int .i64 b.rest.1, .int .i64 b.rest.2, .int .i64 b.heat.1, .int .i64 b.heat.2, .int .i64 b.toil.1, .int .i64 b.toil.2, .int .i64 b.burn.1, .int .i64 b.burn.2, .int .i64 b.rub.1, .int .i64 b.rub.2, .int .i64 b.milk.1, .int .i64 b.milk.2, .int .i64 b.heal, .int .i64 b.strong.1, .int .i64 b.strong.2, .int .i64 c.water.1, .int .i64 c.water.2, .int .i64 c.fat.1, .int .i64 c.fat.2, .int .i64 c.sore.1, .int .i64 c.sore.2, .bool c.milks] 112)) R HR.out (by
    intro x W h1 h2 hB
    obtain ⟨hb, hc, hall, h6⟩ := chkT_fine HX.out
    exact heavyF_any b c a cap n ms x _ rfl _ _ W (keep_row hB (row_here0 _ _ _)).1 (keep_row hB (rowSkip rsW2)).1 HN.out (HD.out.below ((hW2.alloc zW2 _).trans (hB.mono (by simp; omega))) (Nat.le_refl _) (by have := hB.size; simp at this; omega)) h6 hb hc hall h1 h2)
  rw [HQ.out] at hK
  refine hK.mono ?_
  clear hK
  rintro e W3 ⟨rfl, hB⟩
  have hW3 : Below w.heap.size w W3 := (hW2.alloc zW2 _).trans (hB.mono (by simp; omega))
  clear hB
  cases q with
  | true =>
    go_wp2
    go_returns
    exact ⟨rfl, hW3⟩
  | false =>
    go_wp2
    go_returns
    exact ⟨rfl, hW3⟩
theorem Heaviest_any (b : Br) (c : Cm) (a : Option Addr) (cap n : Nat) (ms : List Mr) (r : Int × Int) (hr : heaS b c ms (chkT b c ms) = r) (w : World) (hn : n = ms.length) (h : DaysIn w a cap ms) (hl : ms.length ≤ 100000) :
    Calls Try.prog 21 #[.agg #[.int .i64 b.full, .int .i64 b.fed, .int .i64 b.rest.1, .int .i64 b.rest.2, .int .i64 b.heat.1, .int .i64 b.heat.2, .int .i64 b.toil.1, .int .i64 b.toil.2, .int .i64 b.burn.1, .int .i64 b.burn.2, .int .i64 b.rub.1, .int .i64 b.rub.2, .int .i64 b.milk.1, .int .i64 b.milk.2, .int .i64 b.heal, .int .i64 b.strong.1, .int .i64 b.strong.2], .agg #[.int .i64 c.water.1, .int .i64 c.water.2, .int .i64 c.fat.1, .int .i64 c.fat.2, .int .i64 c.sore.1, .int .i64 c.sore.2, .bool c.milks], .slice a n cap] w fun e w' => e = .returned (.tuple #[.int .i64 r.1, .int .i64 r.2]) ∧ Below w.heap.size w w' := by
  subst hr
  by_cases h0 : chkT b c ms = 0
  · refine (Heaviest_ok b c a cap n ms _ _ w hn h hl h0 rfl rfl).mono fun e w' hh => ⟨hh.1.trans ?_, hh.2⟩
    by_cases hq : bearS b c ms 0 = true
    · simp [heaS, h0, hq]
    · simp [heaS, h0, hq]
  · refine (Heaviest_bad b c a cap n ms _ w hn h hl rfl h0).mono fun e w' hh => ⟨hh.1.trans ?_, hh.2⟩
    simp [heaS, h0]
end Go.Proofs.Ytafdcbdbllpcnaa
