/- Contract of the reference's After: what it returns, for every breed, animal and day. -/
import Derived.Test.YtafdcbdbllpcnaaRefG
import Derived.Test.YtafdcbdbllpcnaaMtCl
import Derived.Test.YtafdcbdbllpcnaaRefA
set_option linter.unusedVariables false
set_option linter.unusedSimpArgs false
namespace Go.Proofs.Ytafdcbdbllpcnaa
open Go.RowKit
open Go.Proofs

attribute [local go_sem ↓] exec36l exec112l exec36s exec112s exec31s run_min2 run_max2
attribute [local go_sem] load36 load112 store36 store112 store31 build112 rowOf_alloc rowOf_drew setRow_alloc one_int one_bool run_min4
attribute [local go_sem ↓] exec39s exec39l
attribute [local go_sem] store39 load39 build39z

theorem rafter_x (b : Br) (c : Cm) (m : Mr) (ra : Cm) (rf : Int) (h1 : (if diesS b c m = true then zc false else eveC b c m) = ra) (h2 : fateS b c m = rf) (w : World) (hb : BdB b) (hc : BdC b c) (hm : BdM m) :
    Calls Try.prog 75 #[.agg #[.int .i64 b.full, .int .i64 b.fed, .int .i64 b.rest.1, .int .i64 b.rest.2, .int .i64 b.heat.1, .int .i64 b.heat.2, .int .i64 b.toil.1, .int .i64 b.toil.2, .int .i64 b.burn.1, .int .i64 b.burn.2, .int .i64 b.rub.1, .int .i64 b.rub.2, .int .i64 b.milk.1, .int .i64 b.milk.2, .int .i64 b.heal, .int .i64 b.strong.1, .int .i64 b.strong.2], .agg #[.int .i64 c.water.1, .int .i64 c.water.2, .int .i64 c.fat.1, .int .i64 c.fat.2, .int .i64 c.sore.1, .int .i64 c.sore.2, .bool c.milks], .agg #[.int .i64 m.hours, .int .i64 m.load, .int .i64 m.heat.1, .int .i64 m.heat.2, .int .i64 m.grass.1, .int .i64 m.grass.2, .int .i64 m.drinks.1, .int .i64 m.drinks.2]] w fun e w' => e = .returned (.tuple #[.agg #[.int .i64 ra.water.1, .int .i64 ra.water.2, .int .i64 ra.fat.1, .int .i64 ra.fat.2, .int .i64 ra.sore.1, .int .i64 ra.sore.2, .bool ra.milks], .int .i64 rf]) ∧ Below w.heap.size w w' := by
  subst h1 h2; exact rafter_any b c m w hb hc hm

theorem rAfter_bad (b : Br) (c : Cm) (m : Mr) (x : Int) (w : World) (hx : chkC b c = x) (h0 : x ≠ 0) :
    Calls Try.prog 35 #[.agg #[.int .i64 b.full, .int .i64 b.fed, .int .i64 b.rest.1, .int .i64 b.rest.2, .int .i64 b.heat.1, .int .i64 b.heat.2, .int .i64 b.toil.1, .int .i64 b.toil.2, .int .i64 b.burn.1, .int .i64 b.burn.2, .int .i64 b.rub.1, .int .i64 b.rub.2, .int .i64 b.milk.1, .int .i64 b.milk.2, .int .i64 b.heal, .int .i64 b.strong.1, .int .i64 b.strong.2], .agg #[.int .i64 c.water.1, .int .i64 c.water.2, .int .i64 c.fat.1, .int .i64 c.fat.2, .int .i64 c.sore.1, .int .i64 c.sore.2, .bool c.milks], .agg #[.int .i64 m.hours, .int .i64 m.load, .int .i64 m.heat.1, .int .i64 m.heat.2, .int .i64 m.grass.1, .int .i64 m.grass.2, .int .i64 m.drinks.1, .int .i64 m.drinks.2]] w fun e w' => e = .returned (.tuple #[.agg #[.int .i64 0, .int .i64 0, .int .i64 0, .int .i64 0, .int .i64 0, .int .i64 0, .bool false], .int .i64 0, .int .i64 x]) ∧ Below w.heap.size w w' := by
  have hcall := fun w => rCheckCamel_any b c w
  simp only [hx] at hcall
  have HC := Lib.hid hcall
  have hne : (x == 0) = false := by simpa using h0
  clear hcall hx
  go_enter Try.func35, Try.ntmps35
  go_wp2_with fail
  refine (HC.out _).mono ?_
  rintro e W1 ⟨rfl, hB⟩
  have hW1 : Below w.heap.size w W1 := Below.trans (by go_grown) (hB.mono (by simp; try omega))
  have zW1 := hW1.size
  obtain ⟨rdW1, cdW1, gdW1, zdW1⟩ := keep_row hB (g := w.heap.size + 1 + 1 + 1) (by repeat (first | with_reducible assumption | with_reducible apply row_here0 | with_reducible apply row_here1 | with_reducible apply row_here2 | with_reducible apply row_here3 | with_reducible apply rowSkip))
  clear hB
  go_wp2
  exact bodyPost_ret (results39_3 Try.results35 rfl (stored_setRow rdW1 _).row rfl (v := .int .i64 0) rfl (v' := .int .i64 x) rfl) rfl ⟨rfl, Below_setRow hW1 (by omega) _⟩

theorem rAfter_march (b : Br) (c : Cm) (m : Mr) (w : World) (hx : chkC b c = 0) (hm : okM m = false) :
    Calls Try.prog 35 #[.agg #[.int .i64 b.full, .int .i64 b.fed, .int .i64 b.rest.1, .int .i64 b.rest.2, .int .i64 b.heat.1, .int .i64 b.heat.2, .int .i64 b.toil.1, .int .i64 b.toil.2, .int .i64 b.burn.1, .int .i64 b.burn.2, .int .i64 b.rub.1, .int .i64 b.rub.2, .int .i64 b.milk.1, .int .i64 b.milk.2, .int .i64 b.heal, .int .i64 b.strong.1, .int .i64 b.strong.2], .agg #[.int .i64 c.water.1, .int .i64 c.water.2, .int .i64 c.fat.1, .int .i64 c.fat.2, .int .i64 c.sore.1, .int .i64 c.sore.2, .bool c.milks], .agg #[.int .i64 m.hours, .int .i64 m.load, .int .i64 m.heat.1, .int .i64 m.heat.2, .int .i64 m.grass.1, .int .i64 m.grass.2, .int .i64 m.drinks.1, .int .i64 m.drinks.2]] w fun e w' => e = .returned (.tuple #[.agg #[.int .i64 0, .int .i64 0, .int .i64 0, .int .i64 0, .int .i64 0, .int .i64 0, .bool false], .int .i64 0, .int .i64 12]) ∧ Below w.heap.size w w' := by
  have hcall := fun w => rCheckCamel_any b c w
  simp only [hx] at hcall
  have HC := Lib.hid hcall
  have H2 := Lib.hid hm
  clear hcall hx hm
  go_enter Try.func35, Try.ntmps35
  go_wp2_with fail
  refine (HC.out _).mono ?_
  rintro e W0 ⟨rfl, hB⟩
  have hW0 : Below w.heap.size w W0 := Below.trans (by go_grown) (hB.mono (by simp; try omega))
  have zW0 := hW0.size
  obtain ⟨rcW0, ccW0, gcW0, zcW0⟩ := keep_row hB (g := w.heap.size + 1 + 1) (by repeat (first | with_reducible assumption | with_reducible apply row_here0 | with_reducible apply row_here1 | with_reducible apply row_here2 | with_reducible apply row_here3 | with_reducible apply rowSkip))
  obtain ⟨rdW0, cdW0, gdW0, zdW0⟩ := keep_row hB (g := w.heap.size + 1 + 1 + 1) (by repeat (first | with_reducible assumption | with_reducible apply row_here0 | with_reducible apply row_here1 | with_reducible apply row_here2 | with_reducible apply row_here3 | with_reducible apply rowSkip))
  clear hB
  go_wp2_with fail
  refine (rMarch_x m _ H2.out _).mono ?_
  rintro e W1 ⟨rfl, hB⟩
  have hW1 : Below w.heap.size w W1 := hW0.trans (Below.trans (by have := hW0.size; go_grown) (hB.mono (by have := hW0.size; simp; try omega)))
  have zW1 := hW1.size
  obtain ⟨rdW1, cdW1, gdW1, zdW1⟩ := keep_row hB (g := w.heap.size + 1 + 1 + 1) (by repeat (first | with_reducible assumption | with_reducible apply row_here0 | with_reducible apply row_here1 | with_reducible apply row_here2 | with_reducible apply row_here3 | with_reducible apply rowSkip))
  clear hB
  go_wp2
  exact bodyPost_ret (results39_3 Try.results35 rfl (stored_setRow rdW1 _).row rfl (v := .int .i64 0) rfl (v' := .int .i64 12) rfl) rfl ⟨rfl, Below_setRow hW1 (by omega) _⟩

set_option maxHeartbeats 4000000 in
theorem rAfter_dies (b : Br) (c : Cm) (m : Mr) (ra : Cm) (w : World) (hx : chkC b c = 0) (hm : okM m = true) (h1 : (if diesS b c m = true then zc false else eveC b c m) = ra) (h2 : fateS b c m = 2) :
    Calls Try.prog 35 #[.agg #[.int .i64 b.full, .int .i64 b.fed, .int .i64 b.rest.1, .int .i64 b.rest.2, .int .i64 b.heat.1, .int .i64 b.heat.2, .int .i64 b.toil.1, .int .i64 b.toil.2, .int .i64 b.burn.1, .int .i64 b.burn.2, .int .i64 b.rub.1, .int .i64 b.rub.2, .int .i64 b.milk.1, .int .i64 b.milk.2, .int .i64 b.heal, .int .i64 b.strong.1, .int .i64 b.strong.2], .agg #[.int .i64 c.water.1, .int .i64 c.water.2, .int .i64 c.fat.1, .int .i64 c.fat.2, .int .i64 c.sore.1, .int .i64 c.sore.2, .bool c.milks], .agg #[.int .i64 m.hours, .int .i64 m.load, .int .i64 m.heat.1, .int .i64 m.heat.2, .int .i64 m.grass.1, .int .i64 m.grass.2, .int .i64 m.drinks.1, .int .i64 m.drinks.2]] w fun e w' => e = .returned (.tuple #[.agg #[.int .i64 0, .int .i64 0, .int .i64 0, .int .i64 0, .int .i64 0, .int .i64 0, .bool false], .int .i64 0, .int .i64 13]) ∧ Below w.heap.size w w' := by
  have HB := Lib.hid (chkC_ok hx)
  have hcall := fun w => rCheckCamel_any b c w
  simp only [hx] at hcall
  have HC := Lib.hid hcall
  have H2 := Lib.hid hm
  have H3 := Lib.hid h1
  have H4 := Lib.hid h2
  clear hcall hx hm h1 h2
  go_enter Try.func35, Try.ntmps35
  go_wp2_with fail
  refine (HC.out _).mono ?_
  rintro e W0 ⟨rfl, hB⟩
  have hW0 : Below w.heap.size w W0 := Below.trans (by go_grown) (hB.mono (by simp; try omega))
  have zW0 := hW0.size
  obtain ⟨raW0, caW0, gaW0, zaW0⟩ := keep_row hB (g := w.heap.size) (by repeat (first | with_reducible assumption | with_reducible apply row_here0 | with_reducible apply row_here1 | with_reducible apply row_here2 | with_reducible apply row_here3 | with_reducible apply rowSkip))
  obtain ⟨rbW0, cbW0, gbW0, zbW0⟩ := keep_row hB (g := w.heap.size + 1) (by repeat (first | with_reducible assumption | with_reducible apply row_here0 | with_reducible apply row_here1 | with_reducible apply row_here2 | with_reducible apply row_here3 | with_reducible apply rowSkip))
  obtain ⟨rcW0, ccW0, gcW0, zcW0⟩ := keep_row hB (g := w.heap.size + 1 + 1) (by repeat (first | with_reducible assumption | with_reducible apply row_here0 | with_reducible apply row_here1 | with_reducible apply row_here2 | with_reducible apply row_here3 | with_reducible apply rowSkip))
  obtain ⟨rdW0, cdW0, gdW0, zdW0⟩ := keep_row hB (g := w.heap.size + 1 + 1 + 1) (by repeat (first | with_reducible assumption | with_reducible apply row_here0 | with_reducible apply row_here1 | with_reducible apply row_here2 | with_reducible apply row_here3 | with_reducible apply rowSkip))
  clear hB
  go_wp2_with fail
  refine (rMarch_x m _ H2.out _).mono ?_
  rintro e W1 ⟨rfl, hB⟩
  have hW1 : Below w.heap.size w W1 := hW0.trans (Below.trans (by have := hW0.size; go_grown) (hB.mono (by have := hW0.size; simp; try omega)))
  have zW1 := hW1.size
  obtain ⟨raW1, caW1, gaW1, zaW1⟩ := keep_row hB (g := w.heap.size) (by repeat (first | with_reducible assumption | with_reducible apply row_here0 | with_reducible apply row_here1 | with_reducible apply row_here2 | with_reducible apply row_here3 | with_reducible apply rowSkip))
  obtain ⟨rbW1, cbW1, gbW1, zbW1⟩ := keep_row hB (g := w.heap.size + 1) (by repeat (first | with_reducible assumption | with_reducible apply row_here0 | with_reducible apply row_here1 | with_reducible apply row_here2 | with_reducible apply row_here3 | with_reducible apply rowSkip))
  obtain ⟨rcW1, ccW1, gcW1, zcW1⟩ := keep_row hB (g := w.heap.size + 1 + 1) (by repeat (first | with_reducible assumption | with_reducible apply row_here0 | with_reducible apply row_here1 | with_reducible apply row_here2 | with_reducible apply row_here3 | with_reducible apply rowSkip))
  obtain ⟨rdW1, cdW1, gdW1, zdW1⟩ := keep_row hB (g := w.heap.size + 1 + 1 + 1) (by repeat (first | with_reducible assumption | with_reducible apply row_here0 | with_reducible apply row_here1 | with_reducible apply row_here2 | with_reducible apply row_here3 | with_reducible apply rowSkip))
  clear hB
  go_wp2_with fail
  refine (rafter_x b c m _ _ H3.out H4.out _ HB.out.1 HB.out.2 (okM_bd H2.out)).mono ?_
  rintro e W2 ⟨rfl, hB⟩
  have hW2 : Below w.heap.size w W2 := hW1.trans (Below.trans (by have := hW1.size; go_grown) (hB.mono (by have := hW1.size; simp; try omega)))
  have zW2 := hW2.size
  obtain ⟨raW2, caW2, gaW2, zaW2⟩ := keep_row hB (g := w.heap.size) (by repeat (first | with_reducible assumption | with_reducible apply row_here0 | with_reducible apply row_here1 | with_reducible apply row_here2 | with_reducible apply row_here3 | with_reducible apply rowSkip))
  obtain ⟨rbW2, cbW2, gbW2, zbW2⟩ := keep_row hB (g := w.heap.size + 1) (by repeat (first | with_reducible assumption | with_reducible apply row_here0 | with_reducible apply row_here1 | with_reducible apply row_here2 | with_reducible apply row_here3 | with_reducible apply rowSkip))
  obtain ⟨rcW2, ccW2, gcW2, zcW2⟩ := keep_row hB (g := w.heap.size + 1 + 1) (by repeat (first | with_reducible assumption | with_reducible apply row_here0 | with_reducible apply row_here1 | with_reducible apply row_here2 | with_reducible apply row_here3 | with_reducible apply rowSkip))
  obtain ⟨rdW2, cdW2, gdW2, zdW2⟩ := keep_row hB (g := w.heap.size + 1 + 1 + 1) (by repeat (first | with_reducible assumption | with_reducible apply row_here0 | with_reducible apply row_here1 | with_reducible apply row_here2 | with_reducible apply row_here3 | with_reducible apply rowSkip))
  clear hB
  have hq := fun vs g => rowOf_setRow rdW2 vs g
  go_wp2
  exact bodyPost_ret (results39_3 Try.results35 rfl (stored_setRow (rowSkip rdW2) _).row rfl (v := .int .i64 0) rfl (v' := .int .i64 13) rfl) rfl ⟨rfl, Below_setRow (Below.alloc hW2 zW2 _) (by omega) _⟩
set_option maxHeartbeats 4000000 in
theorem rAfter_open (b : Br) (c : Cm) (m : Mr) (ra : Cm) (w : World) (hx : chkC b c = 0) (hm : okM m = true) (h1 : (if diesS b c m = true then zc false else eveC b c m) = ra) (h2 : fateS b c m = 1) :
    Calls Try.prog 35 #[.agg #[.int .i64 b.full, .int .i64 b.fed, .int .i64 b.rest.1, .int .i64 b.rest.2, .int .i64 b.heat.1, .int .i64 b.heat.2, .int .i64 b.toil.1, .int .i64 b.toil.2, .int .i64 b.burn.1, .int .i64 b.burn.2, .int .i64 b.rub.1, .int .i64 b.rub.2, .int .i64 b.milk.1, .int .i64 b.milk.2, .int .i64 b.heal, .int .i64 b.strong.1, .int .i64 b.strong.2], .agg #[.int .i64 c.water.1, .int .i64 c.water.2, .int .i64 c.fat.1, .int .i64 c.fat.2, .int .i64 c.sore.1, .int .i64 c.sore.2, .bool c.milks], .agg #[.int .i64 m.hours, .int .i64 m.load, .int .i64 m.heat.1, .int .i64 m.heat.2, .int .i64 m.grass.1, .int .i64 m.grass.2, .int .i64 m.drinks.1, .int .i64 m.drinks.2]] w fun e w' => e = .returned (.tuple #[.agg #[.int .i64 ra.water.1, .int .i64 ra.water.2, .int .i64 ra.fat.1, .int .i64 ra.fat.2, .int .i64 ra.sore.1, .int .i64 ra.sore.2, .bool ra.milks], .int .i64 1, .int .i64 0]) ∧ Below w.heap.size w w' := by
  have HB := Lib.hid (chkC_ok hx)
  have hcall := fun w => rCheckCamel_any b c w
  simp only [hx] at hcall
  have HC := Lib.hid hcall
  have H2 := Lib.hid hm
  have H3 := Lib.hid h1
  have H4 := Lib.hid h2
  clear hcall hx hm h1 h2
  go_enter Try.func35, Try.ntmps35
  go_wp2_with fail
  refine (HC.out _).mono ?_
  rintro e W0 ⟨rfl, hB⟩
  have hW0 : Below w.heap.size w W0 := Below.trans (by go_grown) (hB.mono (by simp; try omega))
  have zW0 := hW0.size
  obtain ⟨raW0, caW0, gaW0, zaW0⟩ := keep_row hB (g := w.heap.size) (by repeat (first | with_reducible assumption | with_reducible apply row_here0 | with_reducible apply row_here1 | with_reducible apply row_here2 | with_reducible apply row_here3 | with_reducible apply rowSkip))
  obtain ⟨rbW0, cbW0, gbW0, zbW0⟩ := keep_row hB (g := w.heap.size + 1) (by repeat (first | with_reducible assumption | with_reducible apply row_here0 | with_reducible apply row_here1 | with_reducible apply row_here2 | with_reducible apply row_here3 | with_reducible apply rowSkip))
  obtain ⟨rcW0, ccW0, gcW0, zcW0⟩ := keep_row hB (g := w.heap.size + 1 + 1) (by repeat (first | with_reducible assumption | with_reducible apply row_here0 | with_reducible apply row_here1 | with_reducible apply row_here2 | with_reducible apply row_here3 | with_reducible apply rowSkip))
  obtain ⟨rdW0, cdW0, gdW0, zdW0⟩ := keep_row hB (g := w.heap.size + 1 + 1 + 1) (by repeat (first | with_reducible assumption | with_reducible apply row_here0 | with_reducible apply row_here1 | with_reducible apply row_here2 | with_reducible apply row_here3 | with_reducible apply rowSkip))
  clear hB
  go_wp2_with fail
  refine (rMarch_x m _ H2.out _).mono ?_
  rintro e W1 ⟨rfl, hB⟩
  have hW1 : Below w.heap.size w W1 := hW0.trans (Below.trans (by have := hW0.size; go_grown) (hB.mono (by have := hW0.size; simp; try omega)))
  have zW1 := hW1.size
  obtain ⟨raW1, caW1, gaW1, zaW1⟩ := keep_row hB (g := w.heap.size) (by repeat (first | with_reducible assumption | with_reducible apply row_here0 | with_reducible apply row_here1 | with_reducible apply row_here2 | with_reducible apply row_here3 | with_reducible apply rowSkip))
  obtain ⟨rbW1, cbW1, gbW1, zbW1⟩ := keep_row hB (g := w.heap.size + 1) (by repeat (first | with_reducible assumption | with_reducible apply row_here0 | with_reducible apply row_here1 | with_reducible apply row_here2 | with_reducible apply row_here3 | with_reducible apply rowSkip))
  obtain ⟨rcW1, ccW1, gcW1, zcW1⟩ := keep_row hB (g := w.heap.size + 1 + 1) (by repeat (first | with_reducible assumption | with_reducible apply row_here0 | with_reducible apply row_here1 | with_reducible apply row_here2 | with_reducible apply row_here3 | with_reducible apply rowSkip))
  obtain ⟨rdW1, cdW1, gdW1, zdW1⟩ := keep_row hB (g := w.heap.size + 1 + 1 + 1) (by repeat (first | with_reducible assumption | with_reducible apply row_here0 | with_reducible apply row_here1 | with_reducible apply row_here2 | with_reducible apply row_here3 | with_reducible apply rowSkip))
  clear hB
  go_wp2_with fail
  refine (rafter_x b c m _ _ H3.out H4.out _ HB.out.1 HB.out.2 (okM_bd H2.out)).mono ?_
  rintro e W2 ⟨rfl, hB⟩
  have hW2 : Below w.heap.size w W2 := hW1.trans (Below.trans (by have := hW1.size; go_grown) (hB.mono (by have := hW1.size; simp; try omega)))
  have zW2 := hW2.size
  obtain ⟨raW2, caW2, gaW2, zaW2⟩ := keep_row hB (g := w.heap.size) (by repeat (first | with_reducible assumption | with_reducible apply row_here0 | with_reducible apply row_here1 | with_reducible apply row_here2 | with_reducible apply row_here3 | with_reducible apply rowSkip))
  obtain ⟨rbW2, cbW2, gbW2, zbW2⟩ := keep_row hB (g := w.heap.size + 1) (by repeat (first | with_reducible assumption | with_reducible apply row_here0 | with_reducible apply row_here1 | with_reducible apply row_here2 | with_reducible apply row_here3 | with_reducible apply rowSkip))
  obtain ⟨rcW2, ccW2, gcW2, zcW2⟩ := keep_row hB (g := w.heap.size + 1 + 1) (by repeat (first | with_reducible assumption | with_reducible apply row_here0 | with_reducible apply row_here1 | with_reducible apply row_here2 | with_reducible apply row_here3 | with_reducible apply rowSkip))
  obtain ⟨rdW2, cdW2, gdW2, zdW2⟩ := keep_row hB (g := w.heap.size + 1 + 1 + 1) (by repeat (first | with_reducible assumption | with_reducible apply row_here0 | with_reducible apply row_here1 | with_reducible apply row_here2 | with_reducible apply row_here3 | with_reducible apply rowSkip))
  clear hB
  have hq := fun vs g => rowOf_setRow rdW2 vs g
  go_wp2
  exact bodyPost_ret (results39_3 Try.results35 rfl (stored_setRow (rowSkip rdW2) _).row rfl (v := .int .i64 1) rfl (v' := .int .i64 0) rfl) rfl ⟨rfl, Below_setRow (Below.alloc hW2 zW2 _) (by omega) _⟩
set_option maxHeartbeats 4000000 in
theorem rAfter_lives (b : Br) (c : Cm) (m : Mr) (ra : Cm) (w : World) (hx : chkC b c = 0) (hm : okM m = true) (h1 : (if diesS b c m = true then zc false else eveC b c m) = ra) (h2 : fateS b c m = 0) :
    Calls Try.prog 35 #[.agg #[.int .i64 b.full, .int .i64 b.fed, .int .i64 b.rest.1, .int .i64 b.rest.2, .int .i64 b.heat.1, .int .i64 b.heat.2, .int .i64 b.toil.1, .int .i64 b.toil.2, .int .i64 b.burn.1, .int .i64 b.burn.2, .int .i64 b.rub.1, .int .i64 b.rub.2, .int .i64 b.milk.1, .int .i64 b.milk.2, .int .i64 b.heal, .int .i64 b.strong.1, .int .i64 b.strong.2], .agg #[.int .i64 c.water.1, .int .i64 c.water.2, .int .i64 c.fat.1, .int .i64 c.fat.2, .int .i64 c.sore.1, .int .i64 c.sore.2, .bool c.milks], .agg #[.int .i64 m.hours, .int .i64 m.load, .int .i64 m.heat.1, .int .i64 m.heat.2, .int .i64 m.grass.1, .int .i64 m.grass.2, .int .i64 m.drinks.1, .int .i64 m.drinks.2]] w fun e w' => e = .returned (.tuple #[.agg #[.int .i64 ra.water.1, .int .i64 ra.water.2, .int .i64 ra.fat.1, .int .i64 ra.fat.2, .int .i64 ra.sore.1, .int .i64 ra.sore.2, .bool ra.milks], .int .i64 0, .int .i64 0]) ∧ Below w.heap.size w w' := by
  have HB := Lib.hid (chkC_ok hx)
  have hcall := fun w => rCheckCamel_any b c w
  simp only [hx] at hcall
  have HC := Lib.hid hcall
  have H2 := Lib.hid hm
  have H3 := Lib.hid h1
  have H4 := Lib.hid h2
  clear hcall hx hm h1 h2
  go_enter Try.func35, Try.ntmps35
  go_wp2_with fail
  refine (HC.out _).mono ?_
  rintro e W0 ⟨rfl, hB⟩
  have hW0 : Below w.heap.size w W0 := Below.trans (by go_grown) (hB.mono (by simp; try omega))
  have zW0 := hW0.size
  obtain ⟨raW0, caW0, gaW0, zaW0⟩ := keep_row hB (g := w.heap.size) (by repeat (first | with_reducible assumption | with_reducible apply row_here0 | with_reducible apply row_here1 | with_reducible apply row_here2 | with_reducible apply row_here3 | with_reducible apply rowSkip))
  obtain ⟨rbW0, cbW0, gbW0, zbW0⟩ := keep_row hB (g := w.heap.size + 1) (by repeat (first | with_reducible assumption | with_reducible apply row_here0 | with_reducible apply row_here1 | with_reducible apply row_here2 | with_reducible apply row_here3 | with_reducible apply rowSkip))
  obtain ⟨rcW0, ccW0, gcW0, zcW0⟩ := keep_row hB (g := w.heap.size + 1 + 1) (by repeat (first | with_reducible assumption | with_reducible apply row_here0 | with_reducible apply row_here1 | with_reducible apply row_here2 | with_reducible apply row_here3 | with_reducible apply rowSkip))
  obtain ⟨rdW0, cdW0, gdW0, zdW0⟩ := keep_row hB (g := w.heap.size + 1 + 1 + 1) (by repeat (first | with_reducible assumption | with_reducible apply row_here0 | with_reducible apply row_here1 | with_reducible apply row_here2 | with_reducible apply row_here3 | with_reducible apply rowSkip))
  clear hB
  go_wp2_with fail
  refine (rMarch_x m _ H2.out _).mono ?_
  rintro e W1 ⟨rfl, hB⟩
  have hW1 : Below w.heap.size w W1 := hW0.trans (Below.trans (by have := hW0.size; go_grown) (hB.mono (by have := hW0.size; simp; try omega)))
  have zW1 := hW1.size
  obtain ⟨raW1, caW1, gaW1, zaW1⟩ := keep_row hB (g := w.heap.size) (by repeat (first | with_reducible assumption | with_reducible apply row_here0 | with_reducible apply row_here1 | with_reducible apply row_here2 | with_reducible apply row_here3 | with_reducible apply rowSkip))
  obtain ⟨rbW1, cbW1, gbW1, zbW1⟩ := keep_row hB (g := w.heap.size + 1) (by repeat (first | with_reducible assumption | with_reducible apply row_here0 | with_reducible apply row_here1 | with_reducible apply row_here2 | with_reducible apply row_here3 | with_reducible apply rowSkip))
  obtain ⟨rcW1, ccW1, gcW1, zcW1⟩ := keep_row hB (g := w.heap.size + 1 + 1) (by repeat (first | with_reducible assumption | with_reducible apply row_here0 | with_reducible apply row_here1 | with_reducible apply row_here2 | with_reducible apply row_here3 | with_reducible apply rowSkip))
  obtain ⟨rdW1, cdW1, gdW1, zdW1⟩ := keep_row hB (g := w.heap.size + 1 + 1 + 1) (by repeat (first | with_reducible assumption | with_reducible apply row_here0 | with_reducible apply row_here1 | with_reducible apply row_here2 | with_reducible apply row_here3 | with_reducible apply rowSkip))
  clear hB
  go_wp2_with fail
  refine (rafter_x b c m _ _ H3.out H4.out _ HB.out.1 HB.out.2 (okM_bd H2.out)).mono ?_
  rintro e W2 ⟨rfl, hB⟩
  have hW2 : Below w.heap.size w W2 := hW1.trans (Below.trans (by have := hW1.size; go_grown) (hB.mono (by have := hW1.size; simp; try omega)))
  have zW2 := hW2.size
  obtain ⟨raW2, caW2, gaW2, zaW2⟩ := keep_row hB (g := w.heap.size) (by repeat (first | with_reducible assumption | with_reducible apply row_here0 | with_reducible apply row_here1 | with_reducible apply row_here2 | with_reducible apply row_here3 | with_reducible apply rowSkip))
  obtain ⟨rbW2, cbW2, gbW2, zbW2⟩ := keep_row hB (g := w.heap.size + 1) (by repeat (first | with_reducible assumption | with_reducible apply row_here0 | with_reducible apply row_here1 | with_reducible apply row_here2 | with_reducible apply row_here3 | with_reducible apply rowSkip))
  obtain ⟨rcW2, ccW2, gcW2, zcW2⟩ := keep_row hB (g := w.heap.size + 1 + 1) (by repeat (first | with_reducible assumption | with_reducible apply row_here0 | with_reducible apply row_here1 | with_reducible apply row_here2 | with_reducible apply row_here3 | with_reducible apply rowSkip))
  obtain ⟨rdW2, cdW2, gdW2, zdW2⟩ := keep_row hB (g := w.heap.size + 1 + 1 + 1) (by repeat (first | with_reducible assumption | with_reducible apply row_here0 | with_reducible apply row_here1 | with_reducible apply row_here2 | with_reducible apply row_here3 | with_reducible apply rowSkip))
  clear hB
  have hq := fun vs g => rowOf_setRow rdW2 vs g
  go_wp2
  exact bodyPost_ret (results39_3 Try.results35 rfl (stored_setRow (rowSkip rdW2) _).row rfl (v := .int .i64 0) rfl (v' := .int .i64 0) rfl) rfl ⟨rfl, Below_setRow (Below.alloc hW2 zW2 _) (by omega) _⟩

theorem rAfter_any (b : Br) (c : Cm) (m : Mr) (w : World) :
    Calls Try.prog 35 #[.agg #[.int .i64 b.full, .int .i64 b.fed, .int .i64 b.rest.1, .int .i64 b.rest.2, .int .i64 b.heat.1, .int .i64 b.heat.2, .int .i64 b.toil.1, .int .i64 b.toil.2, .int .i64 b.burn.1, .int .i64 b.burn.2, .int .i64 b.rub.1, .int .i64 b.rub.2, .int .i64 b.milk.1, .int .i64 b.milk.2, .int .i64 b.heal, .int .i64 b.strong.1, .int .i64 b.strong.2], .agg #[.int .i64 c.water.1, .int .i64 c.water.2, .int .i64 c.fat.1, .int .i64 c.fat.2, .int .i64 c.sore.1, .int .i64 c.sore.2, .bool c.milks], .agg #[.int .i64 m.hours, .int .i64 m.load, .int .i64 m.heat.1, .int .i64 m.heat.2, .int .i64 m.grass.1, .int .i64 m.grass.2, .int .i64 m.drinks.1, .int .i64 m.drinks.2]] w fun e w' => e = .returned (.tuple #[.agg #[.int .i64 (aftC b c m).water.1, .int .i64 (aftC b c m).water.2, .int .i64 (aftC b c m).fat.1, .int .i64 (aftC b c m).fat.2, .int .i64 (aftC b c m).sore.1, .int .i64 (aftC b c m).sore.2, .bool (aftC b c m).milks], .int .i64 (aftF b c m), .int .i64 (chkA b c m)]) ∧ Below w.heap.size w w' := by
  by_cases h0 : chkC b c = 0
  · cases hm : okM m with
    | false =>
      have h : chkA b c m = 12 := by simp [chkA, h0, hm]
      have h1 : aftC b c m = zc false := by simp [aftC, h]
      have h2 : aftF b c m = 0 := by simp [aftF, h]
      rw [h, h1, h2]
      exact rAfter_march b c m w h0 hm
    | true =>
      cases hd : diesS b c m with
      | true =>
        have h : chkA b c m = 13 := by simp [chkA, h0, hm, hd]
        have h1 : aftC b c m = zc false := by simp [aftC, h]
        have h2 : aftF b c m = 0 := by simp [aftF, h]
        rw [h, h1, h2]
        exact rAfter_dies b c m (zc false) w h0 hm (by rw [hd]; rfl) (aftW_dies hd).2
      | false =>
        have h : chkA b c m = 0 := by simp [chkA, h0, hm, hd]
        have h1 : aftC b c m = eveC b c m := by simp [aftC, h]
        cases ho : openS b c m with
        | true =>
          have h2 : aftF b c m = 1 := by simp [aftF, h, ho]
          rw [h, h1, h2]
          exact rAfter_open b c m _ w h0 hm (by rw [hd]; rfl) (by rw [(aftW_lives hd).2]; simp [ho])
        | false =>
          have h2 : aftF b c m = 0 := by simp [aftF, h, ho]
          rw [h, h1, h2]
          exact rAfter_lives b c m _ w h0 hm (by rw [hd]; rfl) (by rw [(aftW_lives hd).2]; simp [ho])
  · have h : chkA b c m = chkC b c := by simp [chkA, h0]
    have h1 : aftC b c m = zc false := by simp [aftC, h, h0]
    have h2 : aftF b c m = 0 := by simp [aftF, h, h0]
    rw [h, h1, h2]
    exact rAfter_bad b c m _ w rfl h0
end Go.Proofs.Ytafdcbdbllpcnaa
/- Contract of the reference's Lasts: how many days like one an animal lasts. -/
namespace Go.Proofs.Ytafdcbdbllpcnaa
open Go.RowKit
open Go.Proofs

theorem rowOf_setCell_other (w : World) (a : Addr) (v : Value) (g : Nat) (h : g ≠ a.block) : rowOf (w.setCell a v) g = rowOf w g := by
  unfold rowOf; rw [heap_setCell_other w a g v h]
theorem rowOf_setCell_same {w : World} {g off : Nat} {cs : Array Value} (h : rowOf w g = some cs) (v : Value) : rowOf (w.setCell ⟨g, off, none⟩ v) g = some (cs.setIfInBounds off v) := by
  obtain ⟨t, hg⟩ := rowOf_some h
  rw [setCell_eq_setRow w g off cs t (0, 0) v hg]
  exact (stored_setRow h _).row
theorem setCell_below {B : Nat} {a w : World} (h : Below B a w) {g off : Nat} (hg : B ≤ g) (v : Value) : Below B a (w.setCell ⟨g, off, none⟩ v) := h.setCell (p := ⟨g, off, none⟩) hg v

attribute [local go_sem ↓] exec36l exec112l exec36s exec112s exec31s exec39s exec39l run_min2 run_max2
attribute [local go_sem] load36 load112 store36 store112 store39 load39 store31at List.setIfInBounds_toArray List.set_cons_succ List.set_cons_zero build39z rowOf_alloc rowOf_drew setRow_alloc one_int one_bool

/-- How many days like one an animal lasts, or nothing. -/
def lasR (b : Br) (c : Cm) (m : Mr) : Int × Int := if chkT b c [m] = 0 then lastsGo b m 60 0 c 60 else (0, 0)

set_option maxRecDepth 100000 in
theorem asked1 (b : Br) (c : Cm) (m : Mr) (x : Int) (hx : chkT b c [m] = x) (w : World) (g cap : Nat) (h : rowOf w g = some #[.int .i64 m.hours, .int .i64 m.load, .int .i64 m.heat.1, .int .i64 m.heat.2, .int .i64 m.grass.1, .int .i64 m.grass.2, .int .i64 m.drinks.1, .int .i64 m.drinks.2]) (hb : g < w.heap.size) :
    Calls Try.prog 76 #[.agg #[.int .i64 b.full, .int .i64 b.fed, .int .i64 b.rest.1, .int .i64 b.rest.2, .int .i64 b.heat.1, .int .i64 b.heat.2, .int .i64 b.toil.1, .int .i64 b.toil.2, .int .i64 b.burn.1, .int .i64 b.burn.2, .int .i64 b.rub.1, .int .i64 b.rub.2, .int .i64 b.milk.1, .int .i64 b.milk.2, .int .i64 b.heal, .int .i64 b.strong.1, .int .i64 b.strong.2], .agg #[.int .i64 c.water.1, .int .i64 c.water.2, .int .i64 c.fat.1, .int .i64 c.fat.2, .int .i64 c.sore.1, .int .i64 c.sore.2, .bool c.milks], .slice (some ⟨g, 0, none⟩) 1 cap] w fun e w' => e = .returned (.int .i64 x) ∧ Below w.heap.size w w' := by
  subst hx
  have := asked_any b c (some ⟨g, 0, none⟩) cap [m] w (.inr ⟨g, 0, rfl, marches1 h, hb⟩) (by simp)
  simpa using this
theorem chkT1 {b : Br} {c : Cm} {m : Mr} (h : chkT b c [m] = 0) : BdB b ∧ BdC b c ∧ BdM m := by
  unfold chkT at h
  by_cases h0 : chkC b c = 0
  · simp only [h0, if_true] at h
    cases hm : okM m with
    | false => simp [hm] at h
    | true => exact ⟨(chkC_ok h0).1, (chkC_ok h0).2, okM_bd hm⟩
  · simp only [h0, if_false] at h

theorem rLasts_bad (b : Br) (c : Cm) (m : Mr) (x : Int) (w : World) (hx : chkT b c [m] = x) (h0 : x ≠ 0) :
    Calls Try.prog 38 #[.agg #[.int .i64 b.full, .int .i64 b.fed, .int .i64 b.rest.1, .int .i64 b.rest.2, .int .i64 b.heat.1, .int .i64 b.heat.2, .int .i64 b.toil.1, .int .i64 b.toil.2, .int .i64 b.burn.1, .int .i64 b.burn.2, .int .i64 b.rub.1, .int .i64 b.rub.2, .int .i64 b.milk.1, .int .i64 b.milk.2, .int .i64 b.heal, .int .i64 b.strong.1, .int .i64 b.strong.2], .agg #[.int .i64 c.water.1, .int .i64 c.water.2, .int .i64 c.fat.1, .int .i64 c.fat.2, .int .i64 c.sore.1, .int .i64 c.sore.2, .bool c.milks], .agg #[.int .i64 m.hours, .int .i64 m.load, .int .i64 m.heat.1, .int .i64 m.heat.2, .int .i64 m.grass.1, .int .i64 m.grass.2, .int .i64 m.drinks.1, .int .i64 m.drinks.2]] w fun e w' => e = .returned (.tuple #[.agg #[.int .i64 0, .int .i64 0], .int .i64 x]) ∧ Below w.heap.size w w' := by
  have HC := Lib.hid hx
  have hne : (x == 0) = false := by simpa using h0
  clear hx
  go_enter Try.func38, Try.ntmps38
  go_wp2_with fail
  refine (asked1 b c m _ HC.out _ (w.heap.size + 1 + 1 + 1 + 1) _ (by rw [rowOf_alloc, if_pos (by simp)]) (by simp)).mono ?_
  rintro e W1 ⟨rfl, hB⟩
  have hW1 : Below w.heap.size w W1 := Below.trans (by go_grown) (hB.mono (by simp; try omega))
  have zW1 := hW1.size
  obtain ⟨rdW1, cdW1, gdW1, zdW1⟩ := keep_row hB (g := w.heap.size + 1 + 1 + 1) (by repeat (first | with_reducible assumption | with_reducible apply row_here0 | with_reducible apply row_here1 | with_reducible apply row_here2 | with_reducible apply row_here3 | with_reducible apply rowSkip))
  clear hB
  go_wp2
  exact bodyPost_ret (results_row2 Try.results38 rfl (stored_setRow rdW1 _).row rfl (v := .int .i64 x) rfl) rfl ⟨rfl, Below_setRow hW1 (by omega) _⟩

set_option maxRecDepth 100000 in
set_option maxHeartbeats 1000000 in
theorem rLasts_ok (b : Br) (c : Cm) (m : Mr) (w : World) (hx : chkT b c [m] = 0) :
    Calls Try.prog 38 #[.agg #[.int .i64 b.full, .int .i64 b.fed, .int .i64 b.rest.1, .int .i64 b.rest.2, .int .i64 b.heat.1, .int .i64 b.heat.2, .int .i64 b.toil.1, .int .i64 b.toil.2, .int .i64 b.burn.1, .int .i64 b.burn.2, .int .i64 b.rub.1, .int .i64 b.rub.2, .int .i64 b.milk.1, .int .i64 b.milk.2, .int .i64 b.heal, .int .i64 b.strong.1, .int .i64 b.strong.2], .agg #[.int .i64 c.water.1, .int .i64 c.water.2, .int .i64 c.fat.1, .int .i64 c.fat.2, .int .i64 c.sore.1, .int .i64 c.sore.2, .bool c.milks], .agg #[.int .i64 m.hours, .int .i64 m.load, .int .i64 m.heat.1, .int .i64 m.heat.2, .int .i64 m.grass.1, .int .i64 m.grass.2, .int .i64 m.drinks.1, .int .i64 m.drinks.2]] w fun e w' => e = .returned (.tuple #[.agg #[.int .i64 (lastsGo b m 60 0 c 60).1, .int .i64 (lastsGo b m 60 0 c 60).2], .int .i64 0]) ∧ Below w.heap.size w w' := by
  obtain ⟨r, hr⟩ : ∃ r, lastsGo b m 60 0 c 60 = r := ⟨_, rfl⟩
  rw [hr]
  have HR := Lib.hid hr
  have HC := Lib.hid hx
  have HB := Lib.hid (chkT1 hx)
  clear hx hr
  go_enter Try.func38, Try.ntmps38
  go_wp2_with fail
  refine (asked1 b c m _ HC.out _ (w.heap.size + 1 + 1 + 1 + 1) _ (by rw [rowOf_alloc, if_pos (by simp)]) (by simp)).mono ?_
  rintro e W1 ⟨rfl, hB⟩
  have hW1 : Below w.heap.size w W1 := Below.trans (by go_grown) (hB.mono (by simp; try omega))
  have zW1 := hW1.size
  obtain ⟨raW1, caW1, gaW1, zaW1⟩ := keep_row hB (g := w.heap.size) (by repeat (first | with_reducible assumption | with_reducible apply row_here0 | with_reducible apply row_here1 | with_reducible apply row_here2 | with_reducible apply row_here3 | with_reducible apply rowSkip))
  obtain ⟨rbW1, cbW1, gbW1, zbW1⟩ := keep_row hB (g := w.heap.size + 1) (by repeat (first | with_reducible assumption | with_reducible apply row_here0 | with_reducible apply row_here1 | with_reducible apply row_here2 | with_reducible apply row_here3 | with_reducible apply rowSkip))
  obtain ⟨rcW1, ccW1, gcW1, zcW1⟩ := keep_row hB (g := w.heap.size + 1 + 1) (by repeat (first | with_reducible assumption | with_reducible apply row_here0 | with_reducible apply row_here1 | with_reducible apply row_here2 | with_reducible apply row_here3 | with_reducible apply rowSkip))
  obtain ⟨rdW1, cdW1, gdW1, zdW1⟩ := keep_row hB (g := w.heap.size + 1 + 1 + 1) (by repeat (first | with_reducible assumption | with_reducible apply row_here0 | with_reducible apply row_here1 | with_reducible apply row_here2 | with_reducible apply row_here3 | with_reducible apply rowSkip))
  clear hB
  go_wp2_with fail
  have zz : w.heap.size + 1 + 1 + 1 < W1.heap.size := zdW1
  go_loopw [10] (fun i wr => ∃ (n k : Nat) (cur : Cm) (lo : Int), n + k = 60 ∧ i = .int .i64 k ∧ Hid (lastsGo b m n k cur lo = r) ∧ Hid (BdC b cur) ∧ Below w.heap.size w wr ∧ rowOf wr w.heap.size = some #[.int .i64 b.full, .int .i64 b.fed, .int .i64 b.rest.1, .int .i64 b.rest.2, .int .i64 b.heat.1, .int .i64 b.heat.2, .int .i64 b.toil.1, .int .i64 b.toil.2, .int .i64 b.burn.1, .int .i64 b.burn.2, .int .i64 b.rub.1, .int .i64 b.rub.2, .int .i64 b.milk.1, .int .i64 b.milk.2, .int .i64 b.heal, .int .i64 b.strong.1, .int .i64 b.strong.2] ∧ rowOf wr (w.heap.size + 1) = some #[.int .i64 cur.water.1, .int .i64 cur.water.2, .int .i64 cur.fat.1, .int .i64 cur.fat.2, .int .i64 cur.sore.1, .int .i64 cur.sore.2, .bool cur.milks] ∧ rowOf wr (w.heap.size + 1 + 1) = some #[.int .i64 m.hours, .int .i64 m.load, .int .i64 m.heat.1, .int .i64 m.heat.2, .int .i64 m.grass.1, .int .i64 m.grass.2, .int .i64 m.drinks.1, .int .i64 m.drinks.2] ∧ rowOf wr (w.heap.size + 1 + 1 + 1) = some #[.int .i64 0, .int .i64 0] ∧ rowOf wr W1.heap.size = some #[.int .i64 lo, .int .i64 60]) (fun i _ => 60 - (intOf i).toNat)
  case atStart => exact ⟨60, 0, c, 60, rfl, by simp, by have h := HR.out; simpa only [Hid, Int.ofNat_zero, Int.natCast_zero] using h, HB.out.2.1, by go_grown, rowSkip raW1, rowSkip rbW1, rowSkip rcW1, rowSkip rdW1, row_here0 _ _ _⟩
  case round =>
    obtain ⟨n, k, cur, lo, hk, rfl, hgo, hcur, hB0, q1, q2, q3, q4, q5⟩ := hrel
    clear raW1 caW1 gaW1 rbW1 cbW1 gbW1 rcW1 ccW1 gcW1 rdW1 cdW1 gdW1
    obtain ⟨raR, caR, gaR, zaR⟩ := row_facts q1
    obtain ⟨rbR, cbR, gbR, zbR⟩ := row_facts q2
    obtain ⟨rcR, ccR, gcR, zcR⟩ := row_facts q3
    obtain ⟨rdR, cdR, gdR, zdR⟩ := row_facts q4
    obtain ⟨rtR, ctR, gtR, ztR⟩ := row_facts q5
    have zR := hB0.size
    clear q1 q2 q3 q4 q5
    cases n with
    | zero =>
      obtain rfl : k = 60 := by omega
      have hq := fun vs g => rowOf_setRow rdR vs g
      go_wp2
      exact bodyPost_ret (results_row2 Try.results38 rfl (cs := #[.int .i64 lo, .int .i64 60]) (stored_setRow rdR _).row rfl (v := .int .i64 0) rfl) rfl ⟨by have h := hgo.out; simp only [lastsGo] at h; rw [← h], Below_setRow hB0 (by omega) _⟩
    | succ n =>
      have hR := hB0
      have hk' : (k : Int) < 60 := by omega
      cases hd : diesS b cur m with
      | true =>
        have H3 := Lib.hid (show (if diesS b cur m = true then zc false else eveC b cur m) = zc false by rw [hd]; rfl)
        have H4 := Lib.hid (aftW_dies hd).2
        have H5 := Lib.hid ((lastsGo_dies (n := n) (i := k) (lo := lo) hd).symm.trans hgo.out)
        clear hd hgo
        go_wp2_with fail
        refine (rafter_x b cur m _ _ H3.out H4.out _ HB.out.1 hcur.out HB.out.2.2).mono ?_
        rintro e W2 ⟨rfl, hB⟩
        have hW2 : Below w.heap.size w W2 := hR.trans (Below.trans (by have := hR.size; go_grown) (hB.mono (by have := hR.size; simp; try omega)))
        have zW2 := hW2.size
        obtain ⟨raW2, caW2, gaW2, zaW2⟩ := keep_row hB (g := w.heap.size) (by repeat (first | with_reducible assumption | with_reducible apply row_here0 | with_reducible apply row_here1 | with_reducible apply row_here2 | with_reducible apply row_here3 | with_reducible apply rowSkip))
        obtain ⟨rbW2, cbW2, gbW2, zbW2⟩ := keep_row hB (g := w.heap.size + 1) (by repeat (first | with_reducible assumption | with_reducible apply row_here0 | with_reducible apply row_here1 | with_reducible apply row_here2 | with_reducible apply row_here3 | with_reducible apply rowSkip))
        obtain ⟨rcW2, ccW2, gcW2, zcW2⟩ := keep_row hB (g := w.heap.size + 1 + 1) (by repeat (first | with_reducible assumption | with_reducible apply row_here0 | with_reducible apply row_here1 | with_reducible apply row_here2 | with_reducible apply row_here3 | with_reducible apply rowSkip))
        obtain ⟨rdW2, cdW2, gdW2, zdW2⟩ := keep_row hB (g := w.heap.size + 1 + 1 + 1) (by repeat (first | with_reducible assumption | with_reducible apply row_here0 | with_reducible apply row_here1 | with_reducible apply row_here2 | with_reducible apply row_here3 | with_reducible apply rowSkip))
        obtain ⟨rtW2, ctW2, gtW2, ztW2⟩ := keep_row hB (g := W1.heap.size) (by repeat (first | with_reducible assumption | with_reducible apply row_here0 | with_reducible apply row_here1 | with_reducible apply row_here2 | with_reducible apply row_here3 | with_reducible apply rowSkip))
        clear hB
        clear raR caR gaR rbR cbR gbR rcR ccR gcR rdR cdR gdR rtR ctR gtR
        have hq : ∀ v1 v2, rowOf ((W2.setCell ⟨W1.heap.size, 1, none⟩ v1).setCell ⟨W1.heap.size, 0, none⟩ v2) (w.heap.size + 1 + 1 + 1) = some #[.int .i64 0, .int .i64 0] := fun v1 v2 => by rw [rowOf_setCell_other _ _ _ _ (by simp; omega), rowOf_setCell_other _ _ _ _ (by simp; omega)]; exact rdW2
        go_wp2
        exact bodyPost_ret (results_row2 Try.results38 rfl (cs := #[.int .i64 (mn lo k), .int .i64 k]) (stored_setRow (rowSkip (hq _ _)) _).row rfl (v := .int .i64 0) rfl) rfl ⟨by rw [← H5.out], Below_setRow (Below.alloc (setCell_below (setCell_below hW2 (by omega) _) (by omega) _) (by simp; omega) _) (by omega) _⟩
      | false =>
        have hev := Lib.hid (eve_bd (m := m) HB.out.1 hcur.out HB.out.2.2)
        cases ho : openS b cur m with
        | true =>
          have H3 := Lib.hid (show (if diesS b cur m = true then zc false else eveC b cur m) = eveC b cur m by rw [hd]; rfl)
          have H4 := Lib.hid (show fateS b cur m = 1 by rw [(aftW_lives hd).2, ho]; rfl)
          have H5 := Lib.hid ((lastsGo_open (n := n) (i := k) (lo := lo) hd ho).symm.trans hgo.out)
          clear hd ho hgo
          go_wp2_with fail
          refine (rafter_x b cur m _ _ H3.out H4.out _ HB.out.1 hcur.out HB.out.2.2).mono ?_
          rintro e W2 ⟨rfl, hB⟩
          have hW2 : Below w.heap.size w W2 := hR.trans (Below.trans (by have := hR.size; go_grown) (hB.mono (by have := hR.size; simp; try omega)))
          have zW2 := hW2.size
          obtain ⟨raW2, caW2, gaW2, zaW2⟩ := keep_row hB (g := w.heap.size) (by repeat (first | with_reducible assumption | with_reducible apply row_here0 | with_reducible apply row_here1 | with_reducible apply row_here2 | with_reducible apply row_here3 | with_reducible apply rowSkip))
          obtain ⟨rbW2, cbW2, gbW2, zbW2⟩ := keep_row hB (g := w.heap.size + 1) (by repeat (first | with_reducible assumption | with_reducible apply row_here0 | with_reducible apply row_here1 | with_reducible apply row_here2 | with_reducible apply row_here3 | with_reducible apply rowSkip))
          obtain ⟨rcW2, ccW2, gcW2, zcW2⟩ := keep_row hB (g := w.heap.size + 1 + 1) (by repeat (first | with_reducible assumption | with_reducible apply row_here0 | with_reducible apply row_here1 | with_reducible apply row_here2 | with_reducible apply row_here3 | with_reducible apply rowSkip))
          obtain ⟨rdW2, cdW2, gdW2, zdW2⟩ := keep_row hB (g := w.heap.size + 1 + 1 + 1) (by repeat (first | with_reducible assumption | with_reducible apply row_here0 | with_reducible apply row_here1 | with_reducible apply row_here2 | with_reducible apply row_here3 | with_reducible apply rowSkip))
          obtain ⟨rtW2, ctW2, gtW2, ztW2⟩ := keep_row hB (g := W1.heap.size) (by repeat (first | with_reducible assumption | with_reducible apply row_here0 | with_reducible apply row_here1 | with_reducible apply row_here2 | with_reducible apply row_here3 | with_reducible apply rowSkip))
          clear hB
          clear raR caR gaR rbR cbR gbR rcR ccR gcR rdR cdR gdR rtR ctR gtR
          have hB := setCell_below hW2 (g := W1.heap.size) (off := 0) (by omega) (.int .i64 (mn lo k))
          have ea := (rowOf_setCell_other W2 ⟨W1.heap.size, 0, none⟩ (.int .i64 (mn lo k)) (w.heap.size) (by simp; omega)).trans raW2
          have eb := (rowOf_setCell_other W2 ⟨W1.heap.size, 0, none⟩ (.int .i64 (mn lo k)) (w.heap.size + 1) (by simp; omega)).trans rbW2
          have ec := (rowOf_setCell_other W2 ⟨W1.heap.size, 0, none⟩ (.int .i64 (mn lo k)) (w.heap.size + 1 + 1) (by simp; omega)).trans rcW2
          have ed := (rowOf_setCell_other W2 ⟨W1.heap.size, 0, none⟩ (.int .i64 (mn lo k)) (w.heap.size + 1 + 1 + 1) (by simp; omega)).trans rdW2
          have et := rowOf_setCell_same (off := 0) rtW2 (.int .i64 (mn lo k))
          have hz : (W2.setCell ⟨W1.heap.size, 0, none⟩ (.int .i64 (mn lo k))).heap.size = W2.heap.size := by simp
          have hS := fun o => stored_setRow (rowSkip (o := o) eb) #[.int .i64 (eveC b cur m).water.1, .int .i64 (eveC b cur m).water.2, .int .i64 (eveC b cur m).fat.1, .int .i64 (eveC b cur m).fat.2, .int .i64 (eveC b cur m).sore.1, .int .i64 (eveC b cur m).sore.2, .bool (eveC b cur m).milks]
          go_wp2
          exact ⟨⟨n, k + 1, eveC b cur m, (mn lo k), by omega, by go_num, by have h := H5.out; show lastsGo b m n ((k + 1 : Nat) : Int) _ _ = r; rw [Int.natCast_add]; exact h, hev, Below_setRow (Below.alloc hB (by omega) _) (by omega) _, (hS _).keeps (by omega) (rowSkip ea), (hS _).row, (hS _).keeps (by omega) (rowSkip ec), (hS _).keeps (by omega) (rowSkip ed), (hS _).keeps (by omega) (rowSkip et)⟩, by simp [intOf]; omega⟩
        | false =>
          have H3 := Lib.hid (show (if diesS b cur m = true then zc false else eveC b cur m) = eveC b cur m by rw [hd]; rfl)
          have H4 := Lib.hid (show fateS b cur m = 0 by rw [(aftW_lives hd).2, ho]; rfl)
          have H5 := Lib.hid ((lastsGo_lives (n := n) (i := k) (lo := lo) hd ho).symm.trans hgo.out)
          clear hd ho hgo
          go_wp2_with fail
          refine (rafter_x b cur m _ _ H3.out H4.out _ HB.out.1 hcur.out HB.out.2.2).mono ?_
          rintro e W2 ⟨rfl, hB⟩
          have hW2 : Below w.heap.size w W2 := hR.trans (Below.trans (by have := hR.size; go_grown) (hB.mono (by have := hR.size; simp; try omega)))
          have zW2 := hW2.size
          obtain ⟨raW2, caW2, gaW2, zaW2⟩ := keep_row hB (g := w.heap.size) (by repeat (first | with_reducible assumption | with_reducible apply row_here0 | with_reducible apply row_here1 | with_reducible apply row_here2 | with_reducible apply row_here3 | with_reducible apply rowSkip))
          obtain ⟨rbW2, cbW2, gbW2, zbW2⟩ := keep_row hB (g := w.heap.size + 1) (by repeat (first | with_reducible assumption | with_reducible apply row_here0 | with_reducible apply row_here1 | with_reducible apply row_here2 | with_reducible apply row_here3 | with_reducible apply rowSkip))
          obtain ⟨rcW2, ccW2, gcW2, zcW2⟩ := keep_row hB (g := w.heap.size + 1 + 1) (by repeat (first | with_reducible assumption | with_reducible apply row_here0 | with_reducible apply row_here1 | with_reducible apply row_here2 | with_reducible apply row_here3 | with_reducible apply rowSkip))
          obtain ⟨rdW2, cdW2, gdW2, zdW2⟩ := keep_row hB (g := w.heap.size + 1 + 1 + 1) (by repeat (first | with_reducible assumption | with_reducible apply row_here0 | with_reducible apply row_here1 | with_reducible apply row_here2 | with_reducible apply row_here3 | with_reducible apply rowSkip))
          obtain ⟨rtW2, ctW2, gtW2, ztW2⟩ := keep_row hB (g := W1.heap.size) (by repeat (first | with_reducible assumption | with_reducible apply row_here0 | with_reducible apply row_here1 | with_reducible apply row_here2 | with_reducible apply row_here3 | with_reducible apply rowSkip))
          clear hB
          clear raR caR gaR rbR cbR gbR rcR ccR gcR rdR cdR gdR rtR ctR gtR
          have hB := hW2
          have ea := raW2
          have eb := rbW2
          have ec := rcW2
          have ed := rdW2
          have et := rtW2
          have hz : W2.heap.size = W2.heap.size := rfl
          have hS := fun o => stored_setRow (rowSkip (o := o) eb) #[.int .i64 (eveC b cur m).water.1, .int .i64 (eveC b cur m).water.2, .int .i64 (eveC b cur m).fat.1, .int .i64 (eveC b cur m).fat.2, .int .i64 (eveC b cur m).sore.1, .int .i64 (eveC b cur m).sore.2, .bool (eveC b cur m).milks]
          go_wp2
          exact ⟨⟨n, k + 1, eveC b cur m, lo, by omega, by go_num, by have h := H5.out; show lastsGo b m n ((k + 1 : Nat) : Int) _ _ = r; rw [Int.natCast_add]; exact h, hev, Below_setRow (Below.alloc hB (by omega) _) (by omega) _, (hS _).keeps (by omega) (rowSkip ea), (hS _).row, (hS _).keeps (by omega) (rowSkip ec), (hS _).keeps (by omega) (rowSkip ed), (hS _).keeps (by omega) (rowSkip et)⟩, by simp [intOf]; omega⟩

theorem rLasts_any (b : Br) (c : Cm) (m : Mr) (w : World) :
    Calls Try.prog 38 #[.agg #[.int .i64 b.full, .int .i64 b.fed, .int .i64 b.rest.1, .int .i64 b.rest.2, .int .i64 b.heat.1, .int .i64 b.heat.2, .int .i64 b.toil.1, .int .i64 b.toil.2, .int .i64 b.burn.1, .int .i64 b.burn.2, .int .i64 b.rub.1, .int .i64 b.rub.2, .int .i64 b.milk.1, .int .i64 b.milk.2, .int .i64 b.heal, .int .i64 b.strong.1, .int .i64 b.strong.2], .agg #[.int .i64 c.water.1, .int .i64 c.water.2, .int .i64 c.fat.1, .int .i64 c.fat.2, .int .i64 c.sore.1, .int .i64 c.sore.2, .bool c.milks], .agg #[.int .i64 m.hours, .int .i64 m.load, .int .i64 m.heat.1, .int .i64 m.heat.2, .int .i64 m.grass.1, .int .i64 m.grass.2, .int .i64 m.drinks.1, .int .i64 m.drinks.2]] w fun e w' => e = .returned (.tuple #[.agg #[.int .i64 (lasR b c m).1, .int .i64 (lasR b c m).2], .int .i64 (chkT b c [m])]) ∧ Below w.heap.size w w' := by
  by_cases h : chkT b c [m] = 0
  · have h1 : lasR b c m = lastsGo b m 60 0 c 60 := by rw [lasR, if_pos h]
    rw [h, h1]
    exact rLasts_ok b c m w h
  · have h1 : lasR b c m = (0, 0) := by rw [lasR, if_neg h]
    rw [h1]
    exact rLasts_bad b c m _ w rfl h
end Go.Proofs.Ytafdcbdbllpcnaa
