/- The walk of the first property: Fitness, Carries and Cost agree with the reference's, for every breed, animal and day. -/
import Derived.Test.YtafdcbdbllpcnaaLeafI
import Derived.Test.YtafdcbdbllpcnaaRefF
namespace Go.Proofs.Ytafdcbdbllpcnaa
open Go.RowKit
open Go.Proofs

attribute [local go_sem ↓] exec36l exec112l exec36s exec112s exec31s run_min2 run_max2
attribute [local go_sem] load36 load112 store36 store112 store31 build112 rowOf_alloc rowOf_drew setRow_alloc one_int one_bool run_min4

theorem CheckBreed_n (b : Br) (x : Int) (hx : (if okB b = true then 0 else 10) = x) (w : World) :
    Calls Try.prog 31 #[.agg #[.int .i64 b.full, .int .i64 b.fed, .int .i64 b.rest.1, .int .i64 b.rest.2, .int .i64 b.heat.1, .int .i64 b.heat.2, .int .i64 b.toil.1, .int .i64 b.toil.2, .int .i64 b.burn.1, .int .i64 b.burn.2, .int .i64 b.rub.1, .int .i64 b.rub.2, .int .i64 b.milk.1, .int .i64 b.milk.2, .int .i64 b.heal, .int .i64 b.strong.1, .int .i64 b.strong.2]] w fun e w' => e = .returned (.int .i64 x) ∧ Below w.heap.size w w' := by
  subst hx; exact CheckBreed_any b w
theorem rCheckBreed_n (b : Br) (x : Int) (hx : (if okB b = true then 0 else 10) = x) (w : World) :
    Calls Try.prog 32 #[.agg #[.int .i64 b.full, .int .i64 b.fed, .int .i64 b.rest.1, .int .i64 b.rest.2, .int .i64 b.heat.1, .int .i64 b.heat.2, .int .i64 b.toil.1, .int .i64 b.toil.2, .int .i64 b.burn.1, .int .i64 b.burn.2, .int .i64 b.rub.1, .int .i64 b.rub.2, .int .i64 b.milk.1, .int .i64 b.milk.2, .int .i64 b.heal, .int .i64 b.strong.1, .int .i64 b.strong.2]] w fun e w' => e = .returned (.int .i64 x) ∧ Below w.heap.size w w' := by
  subst hx; exact rCheckBreed_any b w

set_option maxRecDepth 100000 in
set_option maxHeartbeats 8000000 in
theorem camelFits_walk (b : Br) (c : Cm) (m : Mr) (w : World) :
    Calls Try.prog 4 #[.agg #[.int .i64 b.full, .int .i64 b.fed, .int .i64 b.rest.1, .int .i64 b.rest.2, .int .i64 b.heat.1, .int .i64 b.heat.2, .int .i64 b.toil.1, .int .i64 b.toil.2, .int .i64 b.burn.1, .int .i64 b.burn.2, .int .i64 b.rub.1, .int .i64 b.rub.2, .int .i64 b.milk.1, .int .i64 b.milk.2, .int .i64 b.heal, .int .i64 b.strong.1, .int .i64 b.strong.2], .agg #[.int .i64 c.water.1, .int .i64 c.water.2, .int .i64 c.fat.1, .int .i64 c.fat.2, .int .i64 c.sore.1, .int .i64 c.sore.2, .bool c.milks], .agg #[.int .i64 m.hours, .int .i64 m.load, .int .i64 m.heat.1, .int .i64 m.heat.2, .int .i64 m.grass.1, .int .i64 m.grass.2, .int .i64 m.drinks.1, .int .i64 m.drinks.2]] w fun e w' => e = .returned (.bool true) ∧ Below w.heap.size w w' := by
  obtain ⟨x, hx⟩ : ∃ x : Int, (if okB b = true then 0 else 10) = x := ⟨_, rfl⟩
  have HX := Lib.hid hx
  clear hx
  go_enter Try.func4, Try.ntmps4
  go_wp2_with fail
  refine (Fitness_any b c _).mono ?_
  rintro e W1 ⟨rfl, hB⟩
  have hW1 : Below w.heap.size w W1 := Below.trans (by go_grown) (hB.mono (by simp; try omega))
  have zW1 := hW1.size
  obtain ⟨rbW1, cbW1, gbW1, zbW1⟩ := keep_row hB (g := w.heap.size) (by repeat (first | with_reducible assumption | with_reducible apply row_here0 | with_reducible apply row_here1 | with_reducible apply row_here2 | with_reducible apply row_here3 | with_reducible apply rowSkip))
  obtain ⟨rcW1, ccW1, gcW1, zcW1⟩ := keep_row hB (g := w.heap.size + 1) (by repeat (first | with_reducible assumption | with_reducible apply row_here0 | with_reducible apply row_here1 | with_reducible apply row_here2 | with_reducible apply row_here3 | with_reducible apply rowSkip))
  obtain ⟨rmW1, cmW1, gmW1, zmW1⟩ := keep_row hB (g := w.heap.size + 1 + 1) (by repeat (first | with_reducible assumption | with_reducible apply row_here0 | with_reducible apply row_here1 | with_reducible apply row_here2 | with_reducible apply row_here3 | with_reducible apply rowSkip))
  clear hB
  go_wp2_with fail
  refine (rFitness_any b c _).mono ?_
  rintro e W2 ⟨rfl, hB⟩
  have hW2 : Below w.heap.size w W2 := hW1.trans (Below.trans (by have := hW1.size; go_grown) (hB.mono (by have := hW1.size; simp; try omega)))
  have zW2 := hW2.size
  obtain ⟨rbW2, cbW2, gbW2, zbW2⟩ := keep_row hB (g := w.heap.size) (by repeat (first | with_reducible assumption | with_reducible apply row_here0 | with_reducible apply row_here1 | with_reducible apply row_here2 | with_reducible apply row_here3 | with_reducible apply rowSkip))
  obtain ⟨rcW2, ccW2, gcW2, zcW2⟩ := keep_row hB (g := w.heap.size + 1) (by repeat (first | with_reducible assumption | with_reducible apply row_here0 | with_reducible apply row_here1 | with_reducible apply row_here2 | with_reducible apply row_here3 | with_reducible apply rowSkip))
  obtain ⟨rmW2, cmW2, gmW2, zmW2⟩ := keep_row hB (g := w.heap.size + 1 + 1) (by repeat (first | with_reducible assumption | with_reducible apply row_here0 | with_reducible apply row_here1 | with_reducible apply row_here2 | with_reducible apply row_here3 | with_reducible apply rowSkip))
  obtain ⟨rpW2, cpW2, gpW2, zpW2⟩ := keep_row hB (g := W1.heap.size) (by repeat (first | with_reducible assumption | with_reducible apply row_here0 | with_reducible apply row_here1 | with_reducible apply row_here2 | with_reducible apply row_here3 | with_reducible apply rowSkip))
  clear hB
  go_wp2_with fail
  refine (Carries_any b c _).mono ?_
  rintro e W3 ⟨rfl, hB⟩
  have hW3 : Below w.heap.size w W3 := hW2.trans (Below.trans (by have := hW2.size; go_grown) (hB.mono (by have := hW2.size; simp; try omega)))
  have zW3 := hW3.size
  obtain ⟨rbW3, cbW3, gbW3, zbW3⟩ := keep_row hB (g := w.heap.size) (by repeat (first | with_reducible assumption | with_reducible apply row_here0 | with_reducible apply row_here1 | with_reducible apply row_here2 | with_reducible apply row_here3 | with_reducible apply rowSkip))
  obtain ⟨rcW3, ccW3, gcW3, zcW3⟩ := keep_row hB (g := w.heap.size + 1) (by repeat (first | with_reducible assumption | with_reducible apply row_here0 | with_reducible apply row_here1 | with_reducible apply row_here2 | with_reducible apply row_here3 | with_reducible apply rowSkip))
  obtain ⟨rmW3, cmW3, gmW3, zmW3⟩ := keep_row hB (g := w.heap.size + 1 + 1) (by repeat (first | with_reducible assumption | with_reducible apply row_here0 | with_reducible apply row_here1 | with_reducible apply row_here2 | with_reducible apply row_here3 | with_reducible apply rowSkip))
  obtain ⟨rpW3, cpW3, gpW3, zpW3⟩ := keep_row hB (g := W1.heap.size) (by repeat (first | with_reducible assumption | with_reducible apply row_here0 | with_reducible apply row_here1 | with_reducible apply row_here2 | with_reducible apply row_here3 | with_reducible apply rowSkip))
  obtain ⟨rqW3, cqW3, gqW3, zqW3⟩ := keep_row hB (g := W2.heap.size) (by repeat (first | with_reducible assumption | with_reducible apply row_here0 | with_reducible apply row_here1 | with_reducible apply row_here2 | with_reducible apply row_here3 | with_reducible apply rowSkip))
  clear hB
  go_wp2_with fail
  refine (rCarries_any b c _).mono ?_
  rintro e W4 ⟨rfl, hB⟩
  have hW4 : Below w.heap.size w W4 := hW3.trans (Below.trans (by have := hW3.size; go_grown) (hB.mono (by have := hW3.size; simp; try omega)))
  have zW4 := hW4.size
  obtain ⟨rbW4, cbW4, gbW4, zbW4⟩ := keep_row hB (g := w.heap.size) (by repeat (first | with_reducible assumption | with_reducible apply row_here0 | with_reducible apply row_here1 | with_reducible apply row_here2 | with_reducible apply row_here3 | with_reducible apply rowSkip))
  obtain ⟨rcW4, ccW4, gcW4, zcW4⟩ := keep_row hB (g := w.heap.size + 1) (by repeat (first | with_reducible assumption | with_reducible apply row_here0 | with_reducible apply row_here1 | with_reducible apply row_here2 | with_reducible apply row_here3 | with_reducible apply rowSkip))
  obtain ⟨rmW4, cmW4, gmW4, zmW4⟩ := keep_row hB (g := w.heap.size + 1 + 1) (by repeat (first | with_reducible assumption | with_reducible apply row_here0 | with_reducible apply row_here1 | with_reducible apply row_here2 | with_reducible apply row_here3 | with_reducible apply rowSkip))
  obtain ⟨rpW4, cpW4, gpW4, zpW4⟩ := keep_row hB (g := W1.heap.size) (by repeat (first | with_reducible assumption | with_reducible apply row_here0 | with_reducible apply row_here1 | with_reducible apply row_here2 | with_reducible apply row_here3 | with_reducible apply rowSkip))
  obtain ⟨rqW4, cqW4, gqW4, zqW4⟩ := keep_row hB (g := W2.heap.size) (by repeat (first | with_reducible assumption | with_reducible apply row_here0 | with_reducible apply row_here1 | with_reducible apply row_here2 | with_reducible apply row_here3 | with_reducible apply rowSkip))
  obtain ⟨rrW4, crW4, grW4, zrW4⟩ := keep_row hB (g := W3.heap.size) (by repeat (first | with_reducible assumption | with_reducible apply row_here0 | with_reducible apply row_here1 | with_reducible apply row_here2 | with_reducible apply row_here3 | with_reducible apply rowSkip))
  clear hB
  go_wp2_with fail
  refine (Cost_any b c.milks m _).mono ?_
  rintro e W5 ⟨rfl, hB⟩
  have hW5 : Below w.heap.size w W5 := hW4.trans (Below.trans (by have := hW4.size; go_grown) (hB.mono (by have := hW4.size; simp; try omega)))
  have zW5 := hW5.size
  obtain ⟨rbW5, cbW5, gbW5, zbW5⟩ := keep_row hB (g := w.heap.size) (by repeat (first | with_reducible assumption | with_reducible apply row_here0 | with_reducible apply row_here1 | with_reducible apply row_here2 | with_reducible apply row_here3 | with_reducible apply rowSkip))
  obtain ⟨rcW5, ccW5, gcW5, zcW5⟩ := keep_row hB (g := w.heap.size + 1) (by repeat (first | with_reducible assumption | with_reducible apply row_here0 | with_reducible apply row_here1 | with_reducible apply row_here2 | with_reducible apply row_here3 | with_reducible apply rowSkip))
  obtain ⟨rmW5, cmW5, gmW5, zmW5⟩ := keep_row hB (g := w.heap.size + 1 + 1) (by repeat (first | with_reducible assumption | with_reducible apply row_here0 | with_reducible apply row_here1 | with_reducible apply row_here2 | with_reducible apply row_here3 | with_reducible apply rowSkip))
  obtain ⟨rpW5, cpW5, gpW5, zpW5⟩ := keep_row hB (g := W1.heap.size) (by repeat (first | with_reducible assumption | with_reducible apply row_here0 | with_reducible apply row_here1 | with_reducible apply row_here2 | with_reducible apply row_here3 | with_reducible apply rowSkip))
  obtain ⟨rqW5, cqW5, gqW5, zqW5⟩ := keep_row hB (g := W2.heap.size) (by repeat (first | with_reducible assumption | with_reducible apply row_here0 | with_reducible apply row_here1 | with_reducible apply row_here2 | with_reducible apply row_here3 | with_reducible apply rowSkip))
  obtain ⟨rrW5, crW5, grW5, zrW5⟩ := keep_row hB (g := W3.heap.size) (by repeat (first | with_reducible assumption | with_reducible apply row_here0 | with_reducible apply row_here1 | with_reducible apply row_here2 | with_reducible apply row_here3 | with_reducible apply rowSkip))
  obtain ⟨rsW5, csW5, gsW5, zsW5⟩ := keep_row hB (g := W4.heap.size) (by repeat (first | with_reducible assumption | with_reducible apply row_here0 | with_reducible apply row_here1 | with_reducible apply row_here2 | with_reducible apply row_here3 | with_reducible apply rowSkip))
  clear hB
  go_wp2_with fail
  refine (rCost_any b c.milks m _).mono ?_
  rintro e W6 ⟨rfl, hB⟩
  have hW6 : Below w.heap.size w W6 := hW5.trans (Below.trans (by have := hW5.size; go_grown) (hB.mono (by have := hW5.size; simp; try omega)))
  have zW6 := hW6.size
  obtain ⟨rbW6, cbW6, gbW6, zbW6⟩ := keep_row hB (g := w.heap.size) (by repeat (first | with_reducible assumption | with_reducible apply row_here0 | with_reducible apply row_here1 | with_reducible apply row_here2 | with_reducible apply row_here3 | with_reducible apply rowSkip))
  obtain ⟨rcW6, ccW6, gcW6, zcW6⟩ := keep_row hB (g := w.heap.size + 1) (by repeat (first | with_reducible assumption | with_reducible apply row_here0 | with_reducible apply row_here1 | with_reducible apply row_here2 | with_reducible apply row_here3 | with_reducible apply rowSkip))
  obtain ⟨rmW6, cmW6, gmW6, zmW6⟩ := keep_row hB (g := w.heap.size + 1 + 1) (by repeat (first | with_reducible assumption | with_reducible apply row_here0 | with_reducible apply row_here1 | with_reducible apply row_here2 | with_reducible apply row_here3 | with_reducible apply rowSkip))
  obtain ⟨rpW6, cpW6, gpW6, zpW6⟩ := keep_row hB (g := W1.heap.size) (by repeat (first | with_reducible assumption | with_reducible apply row_here0 | with_reducible apply row_here1 | with_reducible apply row_here2 | with_reducible apply row_here3 | with_reducible apply rowSkip))
  obtain ⟨rqW6, cqW6, gqW6, zqW6⟩ := keep_row hB (g := W2.heap.size) (by repeat (first | with_reducible assumption | with_reducible apply row_here0 | with_reducible apply row_here1 | with_reducible apply row_here2 | with_reducible apply row_here3 | with_reducible apply rowSkip))
  obtain ⟨rrW6, crW6, grW6, zrW6⟩ := keep_row hB (g := W3.heap.size) (by repeat (first | with_reducible assumption | with_reducible apply row_here0 | with_reducible apply row_here1 | with_reducible apply row_here2 | with_reducible apply row_here3 | with_reducible apply rowSkip))
  obtain ⟨rsW6, csW6, gsW6, zsW6⟩ := keep_row hB (g := W4.heap.size) (by repeat (first | with_reducible assumption | with_reducible apply row_here0 | with_reducible apply row_here1 | with_reducible apply row_here2 | with_reducible apply row_here3 | with_reducible apply rowSkip))
  obtain ⟨ruW6, cuW6, guW6, zuW6⟩ := keep_row hB (g := W5.heap.size) (by repeat (first | with_reducible assumption | with_reducible apply row_here0 | with_reducible apply row_here1 | with_reducible apply row_here2 | with_reducible apply row_here3 | with_reducible apply rowSkip))
  obtain ⟨ruuW6, cuuW6, guuW6, zuuW6⟩ := keep_row hB (g := W5.heap.size + 1) (by repeat (first | with_reducible assumption | with_reducible apply row_here0 | with_reducible apply row_here1 | with_reducible apply row_here2 | with_reducible apply row_here3 | with_reducible apply rowSkip))
  clear hB
  go_wp2_with fail
  have hW7 : Below w.heap.size w ((W6.alloc (.cells #[.int .i64 (coW b c.milks m).1, .int .i64 (coW b c.milks m).2] 31)).alloc (.cells #[.int .i64 (coF b m).1, .int .i64 (coF b m).2] 31)) := by have := zW6; go_grown
  have rpW7 : rowOf ((W6.alloc (.cells #[.int .i64 (coW b c.milks m).1, .int .i64 (coW b c.milks m).2] 31)).alloc (.cells #[.int .i64 (coF b m).1, .int .i64 (coF b m).2] 31)) (W1.heap.size) = some #[.int .i64 (fitR b c).1, .int .i64 (fitR b c).2] := rowSkip (rowSkip rpW6)
  have rqW7 : rowOf ((W6.alloc (.cells #[.int .i64 (coW b c.milks m).1, .int .i64 (coW b c.milks m).2] 31)).alloc (.cells #[.int .i64 (coF b m).1, .int .i64 (coF b m).2] 31)) (W2.heap.size) = some #[.int .i64 (fitR b c).1, .int .i64 (fitR b c).2] := rowSkip (rowSkip rqW6)
  have rrW7 : rowOf ((W6.alloc (.cells #[.int .i64 (coW b c.milks m).1, .int .i64 (coW b c.milks m).2] 31)).alloc (.cells #[.int .i64 (coF b m).1, .int .i64 (coF b m).2] 31)) (W3.heap.size) = some #[.int .i64 (carR b c).1, .int .i64 (carR b c).2] := rowSkip (rowSkip rrW6)
  have rsW7 : rowOf ((W6.alloc (.cells #[.int .i64 (coW b c.milks m).1, .int .i64 (coW b c.milks m).2] 31)).alloc (.cells #[.int .i64 (coF b m).1, .int .i64 (coF b m).2] 31)) (W4.heap.size) = some #[.int .i64 (carR b c).1, .int .i64 (carR b c).2] := rowSkip (rowSkip rsW6)
  have ruW7 : rowOf ((W6.alloc (.cells #[.int .i64 (coW b c.milks m).1, .int .i64 (coW b c.milks m).2] 31)).alloc (.cells #[.int .i64 (coF b m).1, .int .i64 (coF b m).2] 31)) (W5.heap.size) = some #[.int .i64 (coW b c.milks m).1, .int .i64 (coW b c.milks m).2] := rowSkip (rowSkip ruW6)
  have ruuW7 : rowOf ((W6.alloc (.cells #[.int .i64 (coW b c.milks m).1, .int .i64 (coW b c.milks m).2] 31)).alloc (.cells #[.int .i64 (coF b m).1, .int .i64 (coF b m).2] 31)) (W5.heap.size + 1) = some #[.int .i64 (coF b m).1, .int .i64 (coF b m).2] := rowSkip (rowSkip ruuW6)
  have rbW7 : rowOf ((W6.alloc (.cells #[.int .i64 (coW b c.milks m).1, .int .i64 (coW b c.milks m).2] 31)).alloc (.cells #[.int .i64 (coF b m).1, .int .i64 (coF b m).2] 31)) w.heap.size = some #[.int .i64 b.full, .int .i64 b.fed, .int .i64 b.rest.1, .int .i64 b.rest.2, .int .i64 b.heat.1, .int .i64 b.heat.2, .int .i64 b.toil.1, .int .i64 b.toil.2, .int .i64 b.burn.1, .int .i64 b.burn.2, .int .i64 b.rub.1, .int .i64 b.rub.2, .int .i64 b.milk.1, .int .i64 b.milk.2, .int .i64 b.heal, .int .i64 b.strong.1, .int .i64 b.strong.2] := rowSkip (rowSkip rbW6)
  have rcW7 : rowOf ((W6.alloc (.cells #[.int .i64 (coW b c.milks m).1, .int .i64 (coW b c.milks m).2] 31)).alloc (.cells #[.int .i64 (coF b m).1, .int .i64 (coF b m).2] 31)) (w.heap.size + 1) = some #[.int .i64 c.water.1, .int .i64 c.water.2, .int .i64 c.fat.1, .int .i64 c.fat.2, .int .i64 c.sore.1, .int .i64 c.sore.2, .bool c.milks] := rowSkip (rowSkip rcW6)
  have rvW7 : rowOf ((W6.alloc (.cells #[.int .i64 (coW b c.milks m).1, .int .i64 (coW b c.milks m).2] 31)).alloc (.cells #[.int .i64 (coF b m).1, .int .i64 (coF b m).2] 31)) W6.heap.size = some #[.int .i64 (coW b c.milks m).1, .int .i64 (coW b c.milks m).2] := rowSkip (row_here0 _ _ _)
  have rvvW7 : rowOf ((W6.alloc (.cells #[.int .i64 (coW b c.milks m).1, .int .i64 (coW b c.milks m).2] 31)).alloc (.cells #[.int .i64 (coF b m).1, .int .i64 (coF b m).2] 31)) (W6.heap.size + 1) = some #[.int .i64 (coF b m).1, .int .i64 (coF b m).2] := row_here1 _ _ _ _
  have zW7 := hW7.size
  clear hW1 hW2 hW3 hW4 hW5 hW6
  generalize ((W6.alloc (.cells #[.int .i64 (coW b c.milks m).1, .int .i64 (coW b c.milks m).2] 31)).alloc (.cells #[.int .i64 (coF b m).1, .int .i64 (coF b m).2] 31)) = W7 at *
  refine wp_draws (by kernel_rfl) [] [some 63, some 64, some 65, some 66, some 67, some 68, some 69, some 70, some 71, some 72, some 73, some 74, some 75, some 76, some 77, some 78, some 79, some 80, some 81, some 82, some 83, some 84, some 85, some 86, some 87, some 88, some 89, some 90, some 91, some 92, some 93, some 94, some 95, some 96, some 97, some 98, some 99, some 100, some 101, some 102, some 103, some 104, some 105, some 106, some 107, some 108, some 109, some 110, some 111] (by kernel_rfl) (fun ix v W => match ix with
    | 0 => v = .agg #[.int .i64 b.full, .int .i64 b.fed, .int .i64 b.rest.1, .int .i64 b.rest.2, .int .i64 b.heat.1, .int .i64 b.heat.2, .int .i64 b.toil.1, .int .i64 b.toil.2, .int .i64 b.burn.1, .int .i64 b.burn.2, .int .i64 b.rub.1, .int .i64 b.rub.2, .int .i64 b.milk.1, .int .i64 b.milk.2, .int .i64 b.heal, .int .i64 b.strong.1, .int .i64 b.strong.2]
    | 1 => v = .int .i64 x
    | 2 => v = .agg #[.int .i64 b.full, .int .i64 b.fed, .int .i64 b.rest.1, .int .i64 b.rest.2, .int .i64 b.heat.1, .int .i64 b.heat.2, .int .i64 b.toil.1, .int .i64 b.toil.2, .int .i64 b.burn.1, .int .i64 b.burn.2, .int .i64 b.rub.1, .int .i64 b.rub.2, .int .i64 b.milk.1, .int .i64 b.milk.2, .int .i64 b.heal, .int .i64 b.strong.1, .int .i64 b.strong.2]
    | 3 => v = .int .i64 x
    | 4 => v = .bool true
    | 5 => v = .bool true
    | 6 => v = .agg #[.int .i64 b.full, .int .i64 b.fed, .int .i64 b.rest.1, .int .i64 b.rest.2, .int .i64 b.heat.1, .int .i64 b.heat.2, .int .i64 b.toil.1, .int .i64 b.toil.2, .int .i64 b.burn.1, .int .i64 b.burn.2, .int .i64 b.rub.1, .int .i64 b.rub.2, .int .i64 b.milk.1, .int .i64 b.milk.2, .int .i64 b.heal, .int .i64 b.strong.1, .int .i64 b.strong.2]
    | 7 => v = .agg #[.int .i64 c.water.1, .int .i64 c.water.2, .int .i64 c.fat.1, .int .i64 c.fat.2, .int .i64 c.sore.1, .int .i64 c.sore.2, .bool c.milks]
    | 8 => v = .int .i64 (chkC b c)
    | 9 => v = .agg #[.int .i64 b.full, .int .i64 b.fed, .int .i64 b.rest.1, .int .i64 b.rest.2, .int .i64 b.heat.1, .int .i64 b.heat.2, .int .i64 b.toil.1, .int .i64 b.toil.2, .int .i64 b.burn.1, .int .i64 b.burn.2, .int .i64 b.rub.1, .int .i64 b.rub.2, .int .i64 b.milk.1, .int .i64 b.milk.2, .int .i64 b.heal, .int .i64 b.strong.1, .int .i64 b.strong.2]
    | 10 => v = .agg #[.int .i64 c.water.1, .int .i64 c.water.2, .int .i64 c.fat.1, .int .i64 c.fat.2, .int .i64 c.sore.1, .int .i64 c.sore.2, .bool c.milks]
    | 11 => v = .int .i64 (chkC b c)
    | 12 => v = .bool true
    | 13 => v = .bool true
    | 14 => v = .bool true
    | 15 => v = .agg #[.int .i64 (fitR b c).1, .int .i64 (fitR b c).2]
    | 16 => v = .agg #[.int .i64 (fitR b c).1, .int .i64 (fitR b c).2]
    | 17 => v = .bool true
    | 18 => v = .bool true
    | 19 => v = .bool true
    | 20 => v = .int .i64 (chkC b c)
    | 21 => v = .int .i64 (chkC b c)
    | 22 => v = .bool true
    | 23 => v = .bool true
    | 24 => v = .bool true
    | 25 => v = .agg #[.int .i64 (carR b c).1, .int .i64 (carR b c).2]
    | 26 => v = .agg #[.int .i64 (carR b c).1, .int .i64 (carR b c).2]
    | 27 => v = .bool true
    | 28 => v = .bool true
    | 29 => v = .bool true
    | 30 => v = .int .i64 (chkC b c)
    | 31 => v = .int .i64 (chkC b c)
    | 32 => v = .bool true
    | 33 => v = .bool true
    | 34 => v = .bool true
    | 35 => v = .agg #[.int .i64 (coW b c.milks m).1, .int .i64 (coW b c.milks m).2]
    | 36 => v = .agg #[.int .i64 (coW b c.milks m).1, .int .i64 (coW b c.milks m).2]
    | 37 => v = .bool true
    | 38 => v = .bool true
    | 39 => v = .bool true
    | 40 => v = .agg #[.int .i64 (coF b m).1, .int .i64 (coF b m).2]
    | 41 => v = .agg #[.int .i64 (coF b m).1, .int .i64 (coF b m).2]
    | 42 => v = .bool true
    | 43 => v = .bool true
    | 44 => v = .bool true
    | 45 => v = .int .i64 (chkM b m)
    | 46 => v = .int .i64 (chkM b m)
    | 47 => v = .bool true
    | 48 => v = .bool true
    | _ => True) ⟨⟨?_, ?_⟩, ⟨?_, ?_⟩, ⟨?_, ?_⟩, ⟨?_, ?_⟩, ⟨?_, ?_⟩, ⟨?_, ?_⟩, ⟨?_, ?_⟩, ⟨?_, ?_⟩, ⟨?_, ?_⟩, ⟨?_, ?_⟩, ⟨?_, ?_⟩, ⟨?_, ?_⟩, ⟨?_, ?_⟩, ⟨?_, ?_⟩, ⟨?_, ?_⟩, ⟨?_, ?_⟩, ⟨?_, ?_⟩, ⟨?_, ?_⟩, ⟨?_, ?_⟩, ⟨?_, ?_⟩, ⟨?_, ?_⟩, ⟨?_, ?_⟩, ⟨?_, ?_⟩, ⟨?_, ?_⟩, ⟨?_, ?_⟩, ⟨?_, ?_⟩, ⟨?_, ?_⟩, ⟨?_, ?_⟩, ⟨?_, ?_⟩, ⟨?_, ?_⟩, ⟨?_, ?_⟩, ⟨?_, ?_⟩, ⟨?_, ?_⟩, ⟨?_, ?_⟩, ⟨?_, ?_⟩, ⟨?_, ?_⟩, ⟨?_, ?_⟩, ⟨?_, ?_⟩, ⟨?_, ?_⟩, ⟨?_, ?_⟩, ⟨?_, ?_⟩, ⟨?_, ?_⟩, ⟨?_, ?_⟩, ⟨?_, ?_⟩, ⟨?_, ?_⟩, ⟨?_, ?_⟩, ⟨?_, ?_⟩, ⟨?_, ?_⟩, ⟨?_, ?_⟩, ?_⟩
  · intro g h; cases h
  · intro b' W hE hb hdep K hK
    have e3 : b'.tmps[3]?.getD undef = .pointer (some ⟨w.heap.size, 0, none⟩) := hb 3 (by decide)
    clear hdep hb
    obtain ⟨_, _, -, _⟩ := row_facts (hE.row ((rowOf_drew _ _).trans rbW7) (by first | (simp; done) | (simp; omega)))
    obtain ⟨_, _, -, _⟩ := row_facts (hE.row ((rowOf_drew _ _).trans rcW7) (by first | (simp; done) | (simp; omega)))
    obtain ⟨_, _, -, _⟩ := row_facts (hE.row ((rowOf_drew _ _).trans rpW7) (by first | (simp; done) | (simp; omega)))
    obtain ⟨_, _, -, _⟩ := row_facts (hE.row ((rowOf_drew _ _).trans rqW7) (by first | (simp; done) | (simp; omega)))
    obtain ⟨_, _, -, _⟩ := row_facts (hE.row ((rowOf_drew _ _).trans rrW7) (by first | (simp; done) | (simp; omega)))
    obtain ⟨_, _, -, _⟩ := row_facts (hE.row ((rowOf_drew _ _).trans rsW7) (by first | (simp; done) | (simp; omega)))
    obtain ⟨_, _, -, _⟩ := row_facts (hE.row ((rowOf_drew _ _).trans ruW7) (by first | (simp; done) | (simp; omega)))
    obtain ⟨_, _, -, _⟩ := row_facts (hE.row ((rowOf_drew _ _).trans ruuW7) (by first | (simp; done) | (simp; omega)))
    obtain ⟨_, _, -, _⟩ := row_facts (hE.row ((rowOf_drew _ _).trans rvW7) (by first | (simp; done) | (simp; omega)))
    obtain ⟨_, _, -, _⟩ := row_facts (hE.row ((rowOf_drew _ _).trans rvvW7) (by first | (simp; done) | (simp; omega)))
    go_wp2
    exact hK _ _ (XT.refl _ _) rfl
  · intro g h; cases h
  · intro b' W hE hb hdep K hK
    have e63 : b'.tmps[63]?.getD undef = .agg #[.int .i64 b.full, .int .i64 b.fed, .int .i64 b.rest.1, .int .i64 b.rest.2, .int .i64 b.heat.1, .int .i64 b.heat.2, .int .i64 b.toil.1, .int .i64 b.toil.2, .int .i64 b.burn.1, .int .i64 b.burn.2, .int .i64 b.rub.1, .int .i64 b.rub.2, .int .i64 b.milk.1, .int .i64 b.milk.2, .int .i64 b.heal, .int .i64 b.strong.1, .int .i64 b.strong.2] := pureX (hdep 0 (some 63) (by kernel_rfl) rfl)
    clear hdep hb
    go_wp2_with fail
    refine (CheckBreed_n b _ HX.out _).mono ?_
    rintro e W' ⟨rfl, hB⟩
    exact hK _ _ (Ext.xt hB) rfl
  · intro g h; cases h
  · intro b' W hE hb hdep K hK
    have e3 : b'.tmps[3]?.getD undef = .pointer (some ⟨w.heap.size, 0, none⟩) := hb 3 (by decide)
    clear hdep hb
    obtain ⟨_, _, -, _⟩ := row_facts (hE.row ((rowOf_drew _ _).trans rbW7) (by first | (simp; done) | (simp; omega)))
    obtain ⟨_, _, -, _⟩ := row_facts (hE.row ((rowOf_drew _ _).trans rcW7) (by first | (simp; done) | (simp; omega)))
    obtain ⟨_, _, -, _⟩ := row_facts (hE.row ((rowOf_drew _ _).trans rpW7) (by first | (simp; done) | (simp; omega)))
    obtain ⟨_, _, -, _⟩ := row_facts (hE.row ((rowOf_drew _ _).trans rqW7) (by first | (simp; done) | (simp; omega)))
    obtain ⟨_, _, -, _⟩ := row_facts (hE.row ((rowOf_drew _ _).trans rrW7) (by first | (simp; done) | (simp; omega)))
    obtain ⟨_, _, -, _⟩ := row_facts (hE.row ((rowOf_drew _ _).trans rsW7) (by first | (simp; done) | (simp; omega)))
    obtain ⟨_, _, -, _⟩ := row_facts (hE.row ((rowOf_drew _ _).trans ruW7) (by first | (simp; done) | (simp; omega)))
    obtain ⟨_, _, -, _⟩ := row_facts (hE.row ((rowOf_drew _ _).trans ruuW7) (by first | (simp; done) | (simp; omega)))
    obtain ⟨_, _, -, _⟩ := row_facts (hE.row ((rowOf_drew _ _).trans rvW7) (by first | (simp; done) | (simp; omega)))
    obtain ⟨_, _, -, _⟩ := row_facts (hE.row ((rowOf_drew _ _).trans rvvW7) (by first | (simp; done) | (simp; omega)))
    go_wp2
    exact hK _ _ (XT.refl _ _) rfl
  · intro g h; cases h
  · intro b' W hE hb hdep K hK
    have e65 : b'.tmps[65]?.getD undef = .agg #[.int .i64 b.full, .int .i64 b.fed, .int .i64 b.rest.1, .int .i64 b.rest.2, .int .i64 b.heat.1, .int .i64 b.heat.2, .int .i64 b.toil.1, .int .i64 b.toil.2, .int .i64 b.burn.1, .int .i64 b.burn.2, .int .i64 b.rub.1, .int .i64 b.rub.2, .int .i64 b.milk.1, .int .i64 b.milk.2, .int .i64 b.heal, .int .i64 b.strong.1, .int .i64 b.strong.2] := pureX (hdep 2 (some 65) (by kernel_rfl) rfl)
    clear hdep hb
    go_wp2_with fail
    refine (rCheckBreed_n b _ HX.out _).mono ?_
    rintro e W' ⟨rfl, hB⟩
    exact hK _ _ (Ext.xt hB) rfl
  · intro g h; cases h
  · intro b' W hE hb hdep K hK
    have e64 : b'.tmps[64]?.getD undef = .int .i64 x := pureX (hdep 1 (some 64) (by kernel_rfl) rfl)
    have e66 : b'.tmps[66]?.getD undef = .int .i64 x := pureX (hdep 3 (some 66) (by kernel_rfl) rfl)
    clear hdep hb
    go_wp2
    exact hK _ _ (XT.refl _ _) rfl
  · intro g h; cases h
  · intro b' W hE hb hdep K hK
    have e67 : b'.tmps[67]?.getD undef = .bool true := pureX (hdep 4 (some 67) (by kernel_rfl) rfl)
    clear hdep hb
    go_wp2
    exact hK _ _ (XT.refl _ _) rfl
  · intro g h v W hR; cases h; exact hR
  · intro b' W hE hb hdep K hK
    have e3 : b'.tmps[3]?.getD undef = .pointer (some ⟨w.heap.size, 0, none⟩) := hb 3 (by decide)
    clear hdep hb
    obtain ⟨_, _, -, _⟩ := row_facts (hE.row ((rowOf_drew _ _).trans rbW7) (by first | (simp; done) | (simp; omega)))
    obtain ⟨_, _, -, _⟩ := row_facts (hE.row ((rowOf_drew _ _).trans rcW7) (by first | (simp; done) | (simp; omega)))
    obtain ⟨_, _, -, _⟩ := row_facts (hE.row ((rowOf_drew _ _).trans rpW7) (by first | (simp; done) | (simp; omega)))
    obtain ⟨_, _, -, _⟩ := row_facts (hE.row ((rowOf_drew _ _).trans rqW7) (by first | (simp; done) | (simp; omega)))
    obtain ⟨_, _, -, _⟩ := row_facts (hE.row ((rowOf_drew _ _).trans rrW7) (by first | (simp; done) | (simp; omega)))
    obtain ⟨_, _, -, _⟩ := row_facts (hE.row ((rowOf_drew _ _).trans rsW7) (by first | (simp; done) | (simp; omega)))
    obtain ⟨_, _, -, _⟩ := row_facts (hE.row ((rowOf_drew _ _).trans ruW7) (by first | (simp; done) | (simp; omega)))
    obtain ⟨_, _, -, _⟩ := row_facts (hE.row ((rowOf_drew _ _).trans ruuW7) (by first | (simp; done) | (simp; omega)))
    obtain ⟨_, _, -, _⟩ := row_facts (hE.row ((rowOf_drew _ _).trans rvW7) (by first | (simp; done) | (simp; omega)))
    obtain ⟨_, _, -, _⟩ := row_facts (hE.row ((rowOf_drew _ _).trans rvvW7) (by first | (simp; done) | (simp; omega)))
    go_wp2
    exact hK _ _ (XT.refl _ _) rfl
  · intro g h v W hR; cases h; exact hR
  · intro b' W hE hb hdep K hK
    have e4 : b'.tmps[4]?.getD undef = .pointer (some ⟨w.heap.size + 1, 0, none⟩) := hb 4 (by decide)
    clear hdep hb
    obtain ⟨_, _, -, _⟩ := row_facts (hE.row ((rowOf_drew _ _).trans rbW7) (by first | (simp; done) | (simp; omega)))
    obtain ⟨_, _, -, _⟩ := row_facts (hE.row ((rowOf_drew _ _).trans rcW7) (by first | (simp; done) | (simp; omega)))
    obtain ⟨_, _, -, _⟩ := row_facts (hE.row ((rowOf_drew _ _).trans rpW7) (by first | (simp; done) | (simp; omega)))
    obtain ⟨_, _, -, _⟩ := row_facts (hE.row ((rowOf_drew _ _).trans rqW7) (by first | (simp; done) | (simp; omega)))
    obtain ⟨_, _, -, _⟩ := row_facts (hE.row ((rowOf_drew _ _).trans rrW7) (by first | (simp; done) | (simp; omega)))
    obtain ⟨_, _, -, _⟩ := row_facts (hE.row ((rowOf_drew _ _).trans rsW7) (by first | (simp; done) | (simp; omega)))
    obtain ⟨_, _, -, _⟩ := row_facts (hE.row ((rowOf_drew _ _).trans ruW7) (by first | (simp; done) | (simp; omega)))
    obtain ⟨_, _, -, _⟩ := row_facts (hE.row ((rowOf_drew _ _).trans ruuW7) (by first | (simp; done) | (simp; omega)))
    obtain ⟨_, _, -, _⟩ := row_facts (hE.row ((rowOf_drew _ _).trans rvW7) (by first | (simp; done) | (simp; omega)))
    obtain ⟨_, _, -, _⟩ := row_facts (hE.row ((rowOf_drew _ _).trans rvvW7) (by first | (simp; done) | (simp; omega)))
    go_wp2
    exact hK _ _ (XT.refl _ _) rfl
  · intro g h v W hR; cases h; exact hR
  · intro b' W hE hb hdep K hK
    have e69 : b'.tmps[69]?.getD undef = .agg #[.int .i64 b.full, .int .i64 b.fed, .int .i64 b.rest.1, .int .i64 b.rest.2, .int .i64 b.heat.1, .int .i64 b.heat.2, .int .i64 b.toil.1, .int .i64 b.toil.2, .int .i64 b.burn.1, .int .i64 b.burn.2, .int .i64 b.rub.1, .int .i64 b.rub.2, .int .i64 b.milk.1, .int .i64 b.milk.2, .int .i64 b.heal, .int .i64 b.strong.1, .int .i64 b.strong.2] := pureX (hdep 6 (some 69) (by kernel_rfl) rfl)
    have e70 : b'.tmps[70]?.getD undef = .agg #[.int .i64 c.water.1, .int .i64 c.water.2, .int .i64 c.fat.1, .int .i64 c.fat.2, .int .i64 c.sore.1, .int .i64 c.sore.2, .bool c.milks] := pureX (hdep 7 (some 70) (by kernel_rfl) rfl)
    clear hdep hb
    go_wp2_with fail
    refine (CheckCamel_any b c _).mono ?_
    rintro e W' ⟨rfl, hB⟩
    exact hK _ _ (Ext.xt hB) rfl
  · intro g h v W hR; cases h; exact hR
  · intro b' W hE hb hdep K hK
    have e3 : b'.tmps[3]?.getD undef = .pointer (some ⟨w.heap.size, 0, none⟩) := hb 3 (by decide)
    clear hdep hb
    obtain ⟨_, _, -, _⟩ := row_facts (hE.row ((rowOf_drew _ _).trans rbW7) (by first | (simp; done) | (simp; omega)))
    obtain ⟨_, _, -, _⟩ := row_facts (hE.row ((rowOf_drew _ _).trans rcW7) (by first | (simp; done) | (simp; omega)))
    obtain ⟨_, _, -, _⟩ := row_facts (hE.row ((rowOf_drew _ _).trans rpW7) (by first | (simp; done) | (simp; omega)))
    obtain ⟨_, _, -, _⟩ := row_facts (hE.row ((rowOf_drew _ _).trans rqW7) (by first | (simp; done) | (simp; omega)))
    obtain ⟨_, _, -, _⟩ := row_facts (hE.row ((rowOf_drew _ _).trans rrW7) (by first | (simp; done) | (simp; omega)))
    obtain ⟨_, _, -, _⟩ := row_facts (hE.row ((rowOf_drew _ _).trans rsW7) (by first | (simp; done) | (simp; omega)))
    obtain ⟨_, _, -, _⟩ := row_facts (hE.row ((rowOf_drew _ _).trans ruW7) (by first | (simp; done) | (simp; omega)))
    obtain ⟨_, _, -, _⟩ := row_facts (hE.row ((rowOf_drew _ _).trans ruuW7) (by first | (simp; done) | (simp; omega)))
    obtain ⟨_, _, -, _⟩ := row_facts (hE.row ((rowOf_drew _ _).trans rvW7) (by first | (simp; done) | (simp; omega)))
    obtain ⟨_, _, -, _⟩ := row_facts (hE.row ((rowOf_drew _ _).trans rvvW7) (by first | (simp; done) | (simp; omega)))
    go_wp2
    exact hK _ _ (XT.refl _ _) rfl
  · intro g h v W hR; cases h; exact hR
  · intro b' W hE hb hdep K hK
    have e4 : b'.tmps[4]?.getD undef = .pointer (some ⟨w.heap.size + 1, 0, none⟩) := hb 4 (by decide)
    clear hdep hb
    obtain ⟨_, _, -, _⟩ := row_facts (hE.row ((rowOf_drew _ _).trans rbW7) (by first | (simp; done) | (simp; omega)))
    obtain ⟨_, _, -, _⟩ := row_facts (hE.row ((rowOf_drew _ _).trans rcW7) (by first | (simp; done) | (simp; omega)))
    obtain ⟨_, _, -, _⟩ := row_facts (hE.row ((rowOf_drew _ _).trans rpW7) (by first | (simp; done) | (simp; omega)))
    obtain ⟨_, _, -, _⟩ := row_facts (hE.row ((rowOf_drew _ _).trans rqW7) (by first | (simp; done) | (simp; omega)))
    obtain ⟨_, _, -, _⟩ := row_facts (hE.row ((rowOf_drew _ _).trans rrW7) (by first | (simp; done) | (simp; omega)))
    obtain ⟨_, _, -, _⟩ := row_facts (hE.row ((rowOf_drew _ _).trans rsW7) (by first | (simp; done) | (simp; omega)))
    obtain ⟨_, _, -, _⟩ := row_facts (hE.row ((rowOf_drew _ _).trans ruW7) (by first | (simp; done) | (simp; omega)))
    obtain ⟨_, _, -, _⟩ := row_facts (hE.row ((rowOf_drew _ _).trans ruuW7) (by first | (simp; done) | (simp; omega)))
    obtain ⟨_, _, -, _⟩ := row_facts (hE.row ((rowOf_drew _ _).trans rvW7) (by first | (simp; done) | (simp; omega)))
    obtain ⟨_, _, -, _⟩ := row_facts (hE.row ((rowOf_drew _ _).trans rvvW7) (by first | (simp; done) | (simp; omega)))
    go_wp2
    exact hK _ _ (XT.refl _ _) rfl
  · intro g h v W hR; cases h; exact hR
  · intro b' W hE hb hdep K hK
    have e72 : b'.tmps[72]?.getD undef = .agg #[.int .i64 b.full, .int .i64 b.fed, .int .i64 b.rest.1, .int .i64 b.rest.2, .int .i64 b.heat.1, .int .i64 b.heat.2, .int .i64 b.toil.1, .int .i64 b.toil.2, .int .i64 b.burn.1, .int .i64 b.burn.2, .int .i64 b.rub.1, .int .i64 b.rub.2, .int .i64 b.milk.1, .int .i64 b.milk.2, .int .i64 b.heal, .int .i64 b.strong.1, .int .i64 b.strong.2] := pureX (hdep 9 (some 72) (by kernel_rfl) rfl)
    have e73 : b'.tmps[73]?.getD undef = .agg #[.int .i64 c.water.1, .int .i64 c.water.2, .int .i64 c.fat.1, .int .i64 c.fat.2, .int .i64 c.sore.1, .int .i64 c.sore.2, .bool c.milks] := pureX (hdep 10 (some 73) (by kernel_rfl) rfl)
    clear hdep hb
    go_wp2_with fail
    refine (rCheckCamel_any b c _).mono ?_
    rintro e W' ⟨rfl, hB⟩
    exact hK _ _ (Ext.xt hB) rfl
  · intro g h v W hR; cases h; exact hR
  · intro b' W hE hb hdep K hK
    have e71 : b'.tmps[71]?.getD undef = .int .i64 (chkC b c) := pureX (hdep 8 (some 71) (by kernel_rfl) rfl)
    have e74 : b'.tmps[74]?.getD undef = .int .i64 (chkC b c) := pureX (hdep 11 (some 74) (by kernel_rfl) rfl)
    clear hdep hb
    go_wp2
    exact hK _ _ (XT.refl _ _) rfl
  · intro g h; cases h
  · intro b' W hE hb hdep K hK
    have e68 : b'.tmps[68]?.getD undef = .bool true := pureX (hdep 5 (some 68) (by kernel_rfl) rfl)
    have e75 : b'.tmps[75]?.getD undef = .bool true := pureX (hdep 12 (some 75) (by kernel_rfl) rfl)
    clear hdep hb
    go_wp2
    exact hK _ _ (XT.refl _ _) rfl
  · intro g h; cases h
  · intro b' W hE hb hdep K hK
    have e76 : b'.tmps[76]?.getD undef = .bool true := pureX (hdep 13 (some 76) (by kernel_rfl) rfl)
    clear hdep hb
    go_wp2
    exact hK _ _ (XT.refl _ _) rfl
  · intro g h v W hR; cases h; exact hR
  · intro b' W hE hb hdep K hK
    have e7 : b'.tmps[7]?.getD undef = .pointer (some ⟨W1.heap.size, 0, none⟩) := hb 7 (by decide)
    clear hdep hb
    obtain ⟨_, _, -, _⟩ := row_facts (hE.row ((rowOf_drew _ _).trans rbW7) (by first | (simp; done) | (simp; omega)))
    obtain ⟨_, _, -, _⟩ := row_facts (hE.row ((rowOf_drew _ _).trans rcW7) (by first | (simp; done) | (simp; omega)))
    obtain ⟨_, _, -, _⟩ := row_facts (hE.row ((rowOf_drew _ _).trans rpW7) (by first | (simp; done) | (simp; omega)))
    obtain ⟨_, _, -, _⟩ := row_facts (hE.row ((rowOf_drew _ _).trans rqW7) (by first | (simp; done) | (simp; omega)))
    obtain ⟨_, _, -, _⟩ := row_facts (hE.row ((rowOf_drew _ _).trans rrW7) (by first | (simp; done) | (simp; omega)))
    obtain ⟨_, _, -, _⟩ := row_facts (hE.row ((rowOf_drew _ _).trans rsW7) (by first | (simp; done) | (simp; omega)))
    obtain ⟨_, _, -, _⟩ := row_facts (hE.row ((rowOf_drew _ _).trans ruW7) (by first | (simp; done) | (simp; omega)))
    obtain ⟨_, _, -, _⟩ := row_facts (hE.row ((rowOf_drew _ _).trans ruuW7) (by first | (simp; done) | (simp; omega)))
    obtain ⟨_, _, -, _⟩ := row_facts (hE.row ((rowOf_drew _ _).trans rvW7) (by first | (simp; done) | (simp; omega)))
    obtain ⟨_, _, -, _⟩ := row_facts (hE.row ((rowOf_drew _ _).trans rvvW7) (by first | (simp; done) | (simp; omega)))
    go_wp2
    exact hK _ _ (XT.refl _ _) rfl
  · intro g h v W hR; cases h; exact hR
  · intro b' W hE hb hdep K hK
    have e9 : b'.tmps[9]?.getD undef = .pointer (some ⟨W2.heap.size, 0, none⟩) := hb 9 (by decide)
    clear hdep hb
    obtain ⟨_, _, -, _⟩ := row_facts (hE.row ((rowOf_drew _ _).trans rbW7) (by first | (simp; done) | (simp; omega)))
    obtain ⟨_, _, -, _⟩ := row_facts (hE.row ((rowOf_drew _ _).trans rcW7) (by first | (simp; done) | (simp; omega)))
    obtain ⟨_, _, -, _⟩ := row_facts (hE.row ((rowOf_drew _ _).trans rpW7) (by first | (simp; done) | (simp; omega)))
    obtain ⟨_, _, -, _⟩ := row_facts (hE.row ((rowOf_drew _ _).trans rqW7) (by first | (simp; done) | (simp; omega)))
    obtain ⟨_, _, -, _⟩ := row_facts (hE.row ((rowOf_drew _ _).trans rrW7) (by first | (simp; done) | (simp; omega)))
    obtain ⟨_, _, -, _⟩ := row_facts (hE.row ((rowOf_drew _ _).trans rsW7) (by first | (simp; done) | (simp; omega)))
    obtain ⟨_, _, -, _⟩ := row_facts (hE.row ((rowOf_drew _ _).trans ruW7) (by first | (simp; done) | (simp; omega)))
    obtain ⟨_, _, -, _⟩ := row_facts (hE.row ((rowOf_drew _ _).trans ruuW7) (by first | (simp; done) | (simp; omega)))
    obtain ⟨_, _, -, _⟩ := row_facts (hE.row ((rowOf_drew _ _).trans rvW7) (by first | (simp; done) | (simp; omega)))
    obtain ⟨_, _, -, _⟩ := row_facts (hE.row ((rowOf_drew _ _).trans rvvW7) (by first | (simp; done) | (simp; omega)))
    go_wp2
    exact hK _ _ (XT.refl _ _) rfl
  · intro g h v W hR; cases h; exact hR
  · intro b' W hE hb hdep K hK
    have e78 : b'.tmps[78]?.getD undef = .agg #[.int .i64 (fitR b c).1, .int .i64 (fitR b c).2] := pureX (hdep 15 (some 78) (by kernel_rfl) rfl)
    have e79 : b'.tmps[79]?.getD undef = .agg #[.int .i64 (fitR b c).1, .int .i64 (fitR b c).2] := pureX (hdep 16 (some 79) (by kernel_rfl) rfl)
    clear hdep hb
    go_wp2
    exact hK _ _ (XT.refl _ _) rfl
  · intro g h; cases h
  · intro b' W hE hb hdep K hK
    have e77 : b'.tmps[77]?.getD undef = .bool true := pureX (hdep 14 (some 77) (by kernel_rfl) rfl)
    have e80 : b'.tmps[80]?.getD undef = .bool true := pureX (hdep 17 (some 80) (by kernel_rfl) rfl)
    clear hdep hb
    go_wp2
    exact hK _ _ (XT.refl _ _) rfl
  · intro g h; cases h
  · intro b' W hE hb hdep K hK
    have e81 : b'.tmps[81]?.getD undef = .bool true := pureX (hdep 18 (some 81) (by kernel_rfl) rfl)
    clear hdep hb
    go_wp2
    exact hK _ _ (XT.refl _ _) rfl
  · intro g h v W hR; cases h; exact hR
  · intro b' W hE hb hdep K hK
    have e8 : b'.tmps[8]?.getD undef = .int .i64 (chkC b c) := hb 8 (by decide)
    clear hdep hb
    go_wp2
    exact hK _ _ (XT.refl _ _) rfl
  · intro g h v W hR; cases h; exact hR
  · intro b' W hE hb hdep K hK
    have e10 : b'.tmps[10]?.getD undef = .int .i64 (chkC b c) := hb 10 (by decide)
    clear hdep hb
    go_wp2
    exact hK _ _ (XT.refl _ _) rfl
  · intro g h v W hR; cases h; exact hR
  · intro b' W hE hb hdep K hK
    have e83 : b'.tmps[83]?.getD undef = .int .i64 (chkC b c) := pureX (hdep 20 (some 83) (by kernel_rfl) rfl)
    have e84 : b'.tmps[84]?.getD undef = .int .i64 (chkC b c) := pureX (hdep 21 (some 84) (by kernel_rfl) rfl)
    clear hdep hb
    go_wp2
    exact hK _ _ (XT.refl _ _) rfl
  · intro g h; cases h
  · intro b' W hE hb hdep K hK
    have e82 : b'.tmps[82]?.getD undef = .bool true := pureX (hdep 19 (some 82) (by kernel_rfl) rfl)
    have e85 : b'.tmps[85]?.getD undef = .bool true := pureX (hdep 22 (some 85) (by kernel_rfl) rfl)
    clear hdep hb
    go_wp2
    exact hK _ _ (XT.refl _ _) rfl
  · intro g h; cases h
  · intro b' W hE hb hdep K hK
    have e86 : b'.tmps[86]?.getD undef = .bool true := pureX (hdep 23 (some 86) (by kernel_rfl) rfl)
    clear hdep hb
    go_wp2
    exact hK _ _ (XT.refl _ _) rfl
  · intro g h v W hR; cases h; exact hR
  · intro b' W hE hb hdep K hK
    have e11 : b'.tmps[11]?.getD undef = .pointer (some ⟨W3.heap.size, 0, none⟩) := hb 11 (by decide)
    clear hdep hb
    obtain ⟨_, _, -, _⟩ := row_facts (hE.row ((rowOf_drew _ _).trans rbW7) (by first | (simp; done) | (simp; omega)))
    obtain ⟨_, _, -, _⟩ := row_facts (hE.row ((rowOf_drew _ _).trans rcW7) (by first | (simp; done) | (simp; omega)))
    obtain ⟨_, _, -, _⟩ := row_facts (hE.row ((rowOf_drew _ _).trans rpW7) (by first | (simp; done) | (simp; omega)))
    obtain ⟨_, _, -, _⟩ := row_facts (hE.row ((rowOf_drew _ _).trans rqW7) (by first | (simp; done) | (simp; omega)))
    obtain ⟨_, _, -, _⟩ := row_facts (hE.row ((rowOf_drew _ _).trans rrW7) (by first | (simp; done) | (simp; omega)))
    obtain ⟨_, _, -, _⟩ := row_facts (hE.row ((rowOf_drew _ _).trans rsW7) (by first | (simp; done) | (simp; omega)))
    obtain ⟨_, _, -, _⟩ := row_facts (hE.row ((rowOf_drew _ _).trans ruW7) (by first | (simp; done) | (simp; omega)))
    obtain ⟨_, _, -, _⟩ := row_facts (hE.row ((rowOf_drew _ _).trans ruuW7) (by first | (simp; done) | (simp; omega)))
    obtain ⟨_, _, -, _⟩ := row_facts (hE.row ((rowOf_drew _ _).trans rvW7) (by first | (simp; done) | (simp; omega)))
    obtain ⟨_, _, -, _⟩ := row_facts (hE.row ((rowOf_drew _ _).trans rvvW7) (by first | (simp; done) | (simp; omega)))
    go_wp2
    exact hK _ _ (XT.refl _ _) rfl
  · intro g h v W hR; cases h; exact hR
  · intro b' W hE hb hdep K hK
    have e13 : b'.tmps[13]?.getD undef = .pointer (some ⟨W4.heap.size, 0, none⟩) := hb 13 (by decide)
    clear hdep hb
    obtain ⟨_, _, -, _⟩ := row_facts (hE.row ((rowOf_drew _ _).trans rbW7) (by first | (simp; done) | (simp; omega)))
    obtain ⟨_, _, -, _⟩ := row_facts (hE.row ((rowOf_drew _ _).trans rcW7) (by first | (simp; done) | (simp; omega)))
    obtain ⟨_, _, -, _⟩ := row_facts (hE.row ((rowOf_drew _ _).trans rpW7) (by first | (simp; done) | (simp; omega)))
    obtain ⟨_, _, -, _⟩ := row_facts (hE.row ((rowOf_drew _ _).trans rqW7) (by first | (simp; done) | (simp; omega)))
    obtain ⟨_, _, -, _⟩ := row_facts (hE.row ((rowOf_drew _ _).trans rrW7) (by first | (simp; done) | (simp; omega)))
    obtain ⟨_, _, -, _⟩ := row_facts (hE.row ((rowOf_drew _ _).trans rsW7) (by first | (simp; done) | (simp; omega)))
    obtain ⟨_, _, -, _⟩ := row_facts (hE.row ((rowOf_drew _ _).trans ruW7) (by first | (simp; done) | (simp; omega)))
    obtain ⟨_, _, -, _⟩ := row_facts (hE.row ((rowOf_drew _ _).trans ruuW7) (by first | (simp; done) | (simp; omega)))
    obtain ⟨_, _, -, _⟩ := row_facts (hE.row ((rowOf_drew _ _).trans rvW7) (by first | (simp; done) | (simp; omega)))
    obtain ⟨_, _, -, _⟩ := row_facts (hE.row ((rowOf_drew _ _).trans rvvW7) (by first | (simp; done) | (simp; omega)))
    go_wp2
    exact hK _ _ (XT.refl _ _) rfl
  · intro g h v W hR; cases h; exact hR
  · intro b' W hE hb hdep K hK
    have e88 : b'.tmps[88]?.getD undef = .agg #[.int .i64 (carR b c).1, .int .i64 (carR b c).2] := pureX (hdep 25 (some 88) (by kernel_rfl) rfl)
    have e89 : b'.tmps[89]?.getD undef = .agg #[.int .i64 (carR b c).1, .int .i64 (carR b c).2] := pureX (hdep 26 (some 89) (by kernel_rfl) rfl)
    clear hdep hb
    go_wp2
    exact hK _ _ (XT.refl _ _) rfl
  · intro g h; cases h
  · intro b' W hE hb hdep K hK
    have e87 : b'.tmps[87]?.getD undef = .bool true := pureX (hdep 24 (some 87) (by kernel_rfl) rfl)
    have e90 : b'.tmps[90]?.getD undef = .bool true := pureX (hdep 27 (some 90) (by kernel_rfl) rfl)
    clear hdep hb
    go_wp2
    exact hK _ _ (XT.refl _ _) rfl
  · intro g h; cases h
  · intro b' W hE hb hdep K hK
    have e91 : b'.tmps[91]?.getD undef = .bool true := pureX (hdep 28 (some 91) (by kernel_rfl) rfl)
    clear hdep hb
    go_wp2
    exact hK _ _ (XT.refl _ _) rfl
  · intro g h v W hR; cases h; exact hR
  · intro b' W hE hb hdep K hK
    have e12 : b'.tmps[12]?.getD undef = .int .i64 (chkC b c) := hb 12 (by decide)
    clear hdep hb
    go_wp2
    exact hK _ _ (XT.refl _ _) rfl
  · intro g h v W hR; cases h; exact hR
  · intro b' W hE hb hdep K hK
    have e14 : b'.tmps[14]?.getD undef = .int .i64 (chkC b c) := hb 14 (by decide)
    clear hdep hb
    go_wp2
    exact hK _ _ (XT.refl _ _) rfl
  · intro g h v W hR; cases h; exact hR
  · intro b' W hE hb hdep K hK
    have e93 : b'.tmps[93]?.getD undef = .int .i64 (chkC b c) := pureX (hdep 30 (some 93) (by kernel_rfl) rfl)
    have e94 : b'.tmps[94]?.getD undef = .int .i64 (chkC b c) := pureX (hdep 31 (some 94) (by kernel_rfl) rfl)
    clear hdep hb
    go_wp2
    exact hK _ _ (XT.refl _ _) rfl
  · intro g h; cases h
  · intro b' W hE hb hdep K hK
    have e92 : b'.tmps[92]?.getD undef = .bool true := pureX (hdep 29 (some 92) (by kernel_rfl) rfl)
    have e95 : b'.tmps[95]?.getD undef = .bool true := pureX (hdep 32 (some 95) (by kernel_rfl) rfl)
    clear hdep hb
    go_wp2
    exact hK _ _ (XT.refl _ _) rfl
  · intro g h; cases h
  · intro b' W hE hb hdep K hK
    have e96 : b'.tmps[96]?.getD undef = .bool true := pureX (hdep 33 (some 96) (by kernel_rfl) rfl)
    clear hdep hb
    go_wp2
    exact hK _ _ (XT.refl _ _) rfl
  · intro g h v W hR; cases h; exact hR
  · intro b' W hE hb hdep K hK
    have e15 : b'.tmps[15]?.getD undef = .pointer (some ⟨W5.heap.size, 0, none⟩) := hb 15 (by decide)
    clear hdep hb
    obtain ⟨_, _, -, _⟩ := row_facts (hE.row ((rowOf_drew _ _).trans rbW7) (by first | (simp; done) | (simp; omega)))
    obtain ⟨_, _, -, _⟩ := row_facts (hE.row ((rowOf_drew _ _).trans rcW7) (by first | (simp; done) | (simp; omega)))
    obtain ⟨_, _, -, _⟩ := row_facts (hE.row ((rowOf_drew _ _).trans rpW7) (by first | (simp; done) | (simp; omega)))
    obtain ⟨_, _, -, _⟩ := row_facts (hE.row ((rowOf_drew _ _).trans rqW7) (by first | (simp; done) | (simp; omega)))
    obtain ⟨_, _, -, _⟩ := row_facts (hE.row ((rowOf_drew _ _).trans rrW7) (by first | (simp; done) | (simp; omega)))
    obtain ⟨_, _, -, _⟩ := row_facts (hE.row ((rowOf_drew _ _).trans rsW7) (by first | (simp; done) | (simp; omega)))
    obtain ⟨_, _, -, _⟩ := row_facts (hE.row ((rowOf_drew _ _).trans ruW7) (by first | (simp; done) | (simp; omega)))
    obtain ⟨_, _, -, _⟩ := row_facts (hE.row ((rowOf_drew _ _).trans ruuW7) (by first | (simp; done) | (simp; omega)))
    obtain ⟨_, _, -, _⟩ := row_facts (hE.row ((rowOf_drew _ _).trans rvW7) (by first | (simp; done) | (simp; omega)))
    obtain ⟨_, _, -, _⟩ := row_facts (hE.row ((rowOf_drew _ _).trans rvvW7) (by first | (simp; done) | (simp; omega)))
    go_wp2
    exact hK _ _ (XT.refl _ _) rfl
  · intro g h v W hR; cases h; exact hR
  · intro b' W hE hb hdep K hK
    have e18 : b'.tmps[18]?.getD undef = .pointer (some ⟨W6.heap.size, 0, none⟩) := hb 18 (by decide)
    clear hdep hb
    obtain ⟨_, _, -, _⟩ := row_facts (hE.row ((rowOf_drew _ _).trans rbW7) (by first | (simp; done) | (simp; omega)))
    obtain ⟨_, _, -, _⟩ := row_facts (hE.row ((rowOf_drew _ _).trans rcW7) (by first | (simp; done) | (simp; omega)))
    obtain ⟨_, _, -, _⟩ := row_facts (hE.row ((rowOf_drew _ _).trans rpW7) (by first | (simp; done) | (simp; omega)))
    obtain ⟨_, _, -, _⟩ := row_facts (hE.row ((rowOf_drew _ _).trans rqW7) (by first | (simp; done) | (simp; omega)))
    obtain ⟨_, _, -, _⟩ := row_facts (hE.row ((rowOf_drew _ _).trans rrW7) (by first | (simp; done) | (simp; omega)))
    obtain ⟨_, _, -, _⟩ := row_facts (hE.row ((rowOf_drew _ _).trans rsW7) (by first | (simp; done) | (simp; omega)))
    obtain ⟨_, _, -, _⟩ := row_facts (hE.row ((rowOf_drew _ _).trans ruW7) (by first | (simp; done) | (simp; omega)))
    obtain ⟨_, _, -, _⟩ := row_facts (hE.row ((rowOf_drew _ _).trans ruuW7) (by first | (simp; done) | (simp; omega)))
    obtain ⟨_, _, -, _⟩ := row_facts (hE.row ((rowOf_drew _ _).trans rvW7) (by first | (simp; done) | (simp; omega)))
    obtain ⟨_, _, -, _⟩ := row_facts (hE.row ((rowOf_drew _ _).trans rvvW7) (by first | (simp; done) | (simp; omega)))
    go_wp2
    exact hK _ _ (XT.refl _ _) rfl
  · intro g h v W hR; cases h; exact hR
  · intro b' W hE hb hdep K hK
    have e98 : b'.tmps[98]?.getD undef = .agg #[.int .i64 (coW b c.milks m).1, .int .i64 (coW b c.milks m).2] := pureX (hdep 35 (some 98) (by kernel_rfl) rfl)
    have e99 : b'.tmps[99]?.getD undef = .agg #[.int .i64 (coW b c.milks m).1, .int .i64 (coW b c.milks m).2] := pureX (hdep 36 (some 99) (by kernel_rfl) rfl)
    clear hdep hb
    go_wp2
    exact hK _ _ (XT.refl _ _) rfl
  · intro g h; cases h
  · intro b' W hE hb hdep K hK
    have e97 : b'.tmps[97]?.getD undef = .bool true := pureX (hdep 34 (some 97) (by kernel_rfl) rfl)
    have e100 : b'.tmps[100]?.getD undef = .bool true := pureX (hdep 37 (some 100) (by kernel_rfl) rfl)
    clear hdep hb
    go_wp2
    exact hK _ _ (XT.refl _ _) rfl
  · intro g h; cases h
  · intro b' W hE hb hdep K hK
    have e101 : b'.tmps[101]?.getD undef = .bool true := pureX (hdep 38 (some 101) (by kernel_rfl) rfl)
    clear hdep hb
    go_wp2
    exact hK _ _ (XT.refl _ _) rfl
  · intro g h v W hR; cases h; exact hR
  · intro b' W hE hb hdep K hK
    have e16 : b'.tmps[16]?.getD undef = .pointer (some ⟨W5.heap.size + 1, 0, none⟩) := hb 16 (by decide)
    clear hdep hb
    obtain ⟨_, _, -, _⟩ := row_facts (hE.row ((rowOf_drew _ _).trans rbW7) (by first | (simp; done) | (simp; omega)))
    obtain ⟨_, _, -, _⟩ := row_facts (hE.row ((rowOf_drew _ _).trans rcW7) (by first | (simp; done) | (simp; omega)))
    obtain ⟨_, _, -, _⟩ := row_facts (hE.row ((rowOf_drew _ _).trans rpW7) (by first | (simp; done) | (simp; omega)))
    obtain ⟨_, _, -, _⟩ := row_facts (hE.row ((rowOf_drew _ _).trans rqW7) (by first | (simp; done) | (simp; omega)))
    obtain ⟨_, _, -, _⟩ := row_facts (hE.row ((rowOf_drew _ _).trans rrW7) (by first | (simp; done) | (simp; omega)))
    obtain ⟨_, _, -, _⟩ := row_facts (hE.row ((rowOf_drew _ _).trans rsW7) (by first | (simp; done) | (simp; omega)))
    obtain ⟨_, _, -, _⟩ := row_facts (hE.row ((rowOf_drew _ _).trans ruW7) (by first | (simp; done) | (simp; omega)))
    obtain ⟨_, _, -, _⟩ := row_facts (hE.row ((rowOf_drew _ _).trans ruuW7) (by first | (simp; done) | (simp; omega)))
    obtain ⟨_, _, -, _⟩ := row_facts (hE.row ((rowOf_drew _ _).trans rvW7) (by first | (simp; done) | (simp; omega)))
    obtain ⟨_, _, -, _⟩ := row_facts (hE.row ((rowOf_drew _ _).trans rvvW7) (by first | (simp; done) | (simp; omega)))
    go_wp2
    exact hK _ _ (XT.refl _ _) rfl
  · intro g h v W hR; cases h; exact hR
  · intro b' W hE hb hdep K hK
    have e19 : b'.tmps[19]?.getD undef = .pointer (some ⟨W6.heap.size + 1, 0, none⟩) := hb 19 (by decide)
    clear hdep hb
    obtain ⟨_, _, -, _⟩ := row_facts (hE.row ((rowOf_drew _ _).trans rbW7) (by first | (simp; done) | (simp; omega)))
    obtain ⟨_, _, -, _⟩ := row_facts (hE.row ((rowOf_drew _ _).trans rcW7) (by first | (simp; done) | (simp; omega)))
    obtain ⟨_, _, -, _⟩ := row_facts (hE.row ((rowOf_drew _ _).trans rpW7) (by first | (simp; done) | (simp; omega)))
    obtain ⟨_, _, -, _⟩ := row_facts (hE.row ((rowOf_drew _ _).trans rqW7) (by first | (simp; done) | (simp; omega)))
    obtain ⟨_, _, -, _⟩ := row_facts (hE.row ((rowOf_drew _ _).trans rrW7) (by first | (simp; done) | (simp; omega)))
    obtain ⟨_, _, -, _⟩ := row_facts (hE.row ((rowOf_drew _ _).trans rsW7) (by first | (simp; done) | (simp; omega)))
    obtain ⟨_, _, -, _⟩ := row_facts (hE.row ((rowOf_drew _ _).trans ruW7) (by first | (simp; done) | (simp; omega)))
    obtain ⟨_, _, -, _⟩ := row_facts (hE.row ((rowOf_drew _ _).trans ruuW7) (by first | (simp; done) | (simp; omega)))
    obtain ⟨_, _, -, _⟩ := row_facts (hE.row ((rowOf_drew _ _).trans rvW7) (by first | (simp; done) | (simp; omega)))
    obtain ⟨_, _, -, _⟩ := row_facts (hE.row ((rowOf_drew _ _).trans rvvW7) (by first | (simp; done) | (simp; omega)))
    go_wp2
    exact hK _ _ (XT.refl _ _) rfl
  · intro g h v W hR; cases h; exact hR
  · intro b' W hE hb hdep K hK
    have e103 : b'.tmps[103]?.getD undef = .agg #[.int .i64 (coF b m).1, .int .i64 (coF b m).2] := pureX (hdep 40 (some 103) (by kernel_rfl) rfl)
    have e104 : b'.tmps[104]?.getD undef = .agg #[.int .i64 (coF b m).1, .int .i64 (coF b m).2] := pureX (hdep 41 (some 104) (by kernel_rfl) rfl)
    clear hdep hb
    go_wp2
    exact hK _ _ (XT.refl _ _) rfl
  · intro g h; cases h
  · intro b' W hE hb hdep K hK
    have e102 : b'.tmps[102]?.getD undef = .bool true := pureX (hdep 39 (some 102) (by kernel_rfl) rfl)
    have e105 : b'.tmps[105]?.getD undef = .bool true := pureX (hdep 42 (some 105) (by kernel_rfl) rfl)
    clear hdep hb
    go_wp2
    exact hK _ _ (XT.refl _ _) rfl
  · intro g h; cases h
  · intro b' W hE hb hdep K hK
    have e106 : b'.tmps[106]?.getD undef = .bool true := pureX (hdep 43 (some 106) (by kernel_rfl) rfl)
    clear hdep hb
    go_wp2
    exact hK _ _ (XT.refl _ _) rfl
  · intro g h v W hR; cases h; exact hR
  · intro b' W hE hb hdep K hK
    have e17 : b'.tmps[17]?.getD undef = .int .i64 (chkM b m) := hb 17 (by decide)
    clear hdep hb
    go_wp2
    exact hK _ _ (XT.refl _ _) rfl
  · intro g h v W hR; cases h; exact hR
  · intro b' W hE hb hdep K hK
    have e20 : b'.tmps[20]?.getD undef = .int .i64 (chkM b m) := hb 20 (by decide)
    clear hdep hb
    go_wp2
    exact hK _ _ (XT.refl _ _) rfl
  · intro g h v W hR; cases h; exact hR
  · intro b' W hE hb hdep K hK
    have e108 : b'.tmps[108]?.getD undef = .int .i64 (chkM b m) := pureX (hdep 45 (some 108) (by kernel_rfl) rfl)
    have e109 : b'.tmps[109]?.getD undef = .int .i64 (chkM b m) := pureX (hdep 46 (some 109) (by kernel_rfl) rfl)
    clear hdep hb
    go_wp2
    exact hK _ _ (XT.refl _ _) rfl
  · intro g h; cases h
  · intro b' W hE hb hdep K hK
    have e107 : b'.tmps[107]?.getD undef = .bool true := pureX (hdep 44 (some 107) (by kernel_rfl) rfl)
    have e110 : b'.tmps[110]?.getD undef = .bool true := pureX (hdep 47 (some 110) (by kernel_rfl) rfl)
    clear hdep hb
    go_wp2
    exact hK _ _ (XT.refl _ _) rfl
  intro f W hE hR
  have e63 : f 63 = .agg #[.int .i64 b.full, .int .i64 b.fed, .int .i64 b.rest.1, .int .i64 b.rest.2, .int .i64 b.heat.1, .int .i64 b.heat.2, .int .i64 b.toil.1, .int .i64 b.toil.2, .int .i64 b.burn.1, .int .i64 b.burn.2, .int .i64 b.rub.1, .int .i64 b.rub.2, .int .i64 b.milk.1, .int .i64 b.milk.2, .int .i64 b.heal, .int .i64 b.strong.1, .int .i64 b.strong.2] := pureX (hR 0 (some 63) rfl)
  have e64 : f 64 = .int .i64 x := pureX (hR 1 (some 64) rfl)
  have e65 : f 65 = .agg #[.int .i64 b.full, .int .i64 b.fed, .int .i64 b.rest.1, .int .i64 b.rest.2, .int .i64 b.heat.1, .int .i64 b.heat.2, .int .i64 b.toil.1, .int .i64 b.toil.2, .int .i64 b.burn.1, .int .i64 b.burn.2, .int .i64 b.rub.1, .int .i64 b.rub.2, .int .i64 b.milk.1, .int .i64 b.milk.2, .int .i64 b.heal, .int .i64 b.strong.1, .int .i64 b.strong.2] := pureX (hR 2 (some 65) rfl)
  have e66 : f 66 = .int .i64 x := pureX (hR 3 (some 66) rfl)
  have e67 : f 67 = .bool true := pureX (hR 4 (some 67) rfl)
  have e68 : f 68 = .bool true := pureX (hR 5 (some 68) rfl)
  have e69 : f 69 = .agg #[.int .i64 b.full, .int .i64 b.fed, .int .i64 b.rest.1, .int .i64 b.rest.2, .int .i64 b.heat.1, .int .i64 b.heat.2, .int .i64 b.toil.1, .int .i64 b.toil.2, .int .i64 b.burn.1, .int .i64 b.burn.2, .int .i64 b.rub.1, .int .i64 b.rub.2, .int .i64 b.milk.1, .int .i64 b.milk.2, .int .i64 b.heal, .int .i64 b.strong.1, .int .i64 b.strong.2] := pureX (hR 6 (some 69) rfl)
  have e70 : f 70 = .agg #[.int .i64 c.water.1, .int .i64 c.water.2, .int .i64 c.fat.1, .int .i64 c.fat.2, .int .i64 c.sore.1, .int .i64 c.sore.2, .bool c.milks] := pureX (hR 7 (some 70) rfl)
  have e71 : f 71 = .int .i64 (chkC b c) := pureX (hR 8 (some 71) rfl)
  have e72 : f 72 = .agg #[.int .i64 b.full, .int .i64 b.fed, .int .i64 b.rest.1, .int .i64 b.rest.2, .int .i64 b.heat.1, .int .i64 b.heat.2, .int .i64 b.toil.1, .int .i64 b.toil.2, .int .i64 b.burn.1, .int .i64 b.burn.2, .int .i64 b.rub.1, .int .i64 b.rub.2, .int .i64 b.milk.1, .int .i64 b.milk.2, .int .i64 b.heal, .int .i64 b.strong.1, .int .i64 b.strong.2] := pureX (hR 9 (some 72) rfl)
  have e73 : f 73 = .agg #[.int .i64 c.water.1, .int .i64 c.water.2, .int .i64 c.fat.1, .int .i64 c.fat.2, .int .i64 c.sore.1, .int .i64 c.sore.2, .bool c.milks] := pureX (hR 10 (some 73) rfl)
  have e74 : f 74 = .int .i64 (chkC b c) := pureX (hR 11 (some 74) rfl)
  have e75 : f 75 = .bool true := pureX (hR 12 (some 75) rfl)
  have e76 : f 76 = .bool true := pureX (hR 13 (some 76) rfl)
  have e77 : f 77 = .bool true := pureX (hR 14 (some 77) rfl)
  have e78 : f 78 = .agg #[.int .i64 (fitR b c).1, .int .i64 (fitR b c).2] := pureX (hR 15 (some 78) rfl)
  have e79 : f 79 = .agg #[.int .i64 (fitR b c).1, .int .i64 (fitR b c).2] := pureX (hR 16 (some 79) rfl)
  have e80 : f 80 = .bool true := pureX (hR 17 (some 80) rfl)
  have e81 : f 81 = .bool true := pureX (hR 18 (some 81) rfl)
  have e82 : f 82 = .bool true := pureX (hR 19 (some 82) rfl)
  have e83 : f 83 = .int .i64 (chkC b c) := pureX (hR 20 (some 83) rfl)
  have e84 : f 84 = .int .i64 (chkC b c) := pureX (hR 21 (some 84) rfl)
  have e85 : f 85 = .bool true := pureX (hR 22 (some 85) rfl)
  have e86 : f 86 = .bool true := pureX (hR 23 (some 86) rfl)
  have e87 : f 87 = .bool true := pureX (hR 24 (some 87) rfl)
  have e88 : f 88 = .agg #[.int .i64 (carR b c).1, .int .i64 (carR b c).2] := pureX (hR 25 (some 88) rfl)
  have e89 : f 89 = .agg #[.int .i64 (carR b c).1, .int .i64 (carR b c).2] := pureX (hR 26 (some 89) rfl)
  have e90 : f 90 = .bool true := pureX (hR 27 (some 90) rfl)
  have e91 : f 91 = .bool true := pureX (hR 28 (some 91) rfl)
  have e92 : f 92 = .bool true := pureX (hR 29 (some 92) rfl)
  have e93 : f 93 = .int .i64 (chkC b c) := pureX (hR 30 (some 93) rfl)
  have e94 : f 94 = .int .i64 (chkC b c) := pureX (hR 31 (some 94) rfl)
  have e95 : f 95 = .bool true := pureX (hR 32 (some 95) rfl)
  have e96 : f 96 = .bool true := pureX (hR 33 (some 96) rfl)
  have e97 : f 97 = .bool true := pureX (hR 34 (some 97) rfl)
  have e98 : f 98 = .agg #[.int .i64 (coW b c.milks m).1, .int .i64 (coW b c.milks m).2] := pureX (hR 35 (some 98) rfl)
  have e99 : f 99 = .agg #[.int .i64 (coW b c.milks m).1, .int .i64 (coW b c.milks m).2] := pureX (hR 36 (some 99) rfl)
  have e100 : f 100 = .bool true := pureX (hR 37 (some 100) rfl)
  have e101 : f 101 = .bool true := pureX (hR 38 (some 101) rfl)
  have e102 : f 102 = .bool true := pureX (hR 39 (some 102) rfl)
  have e103 : f 103 = .agg #[.int .i64 (coF b m).1, .int .i64 (coF b m).2] := pureX (hR 40 (some 103) rfl)
  have e104 : f 104 = .agg #[.int .i64 (coF b m).1, .int .i64 (coF b m).2] := pureX (hR 41 (some 104) rfl)
  have e105 : f 105 = .bool true := pureX (hR 42 (some 105) rfl)
  have e106 : f 106 = .bool true := pureX (hR 43 (some 106) rfl)
  have e107 : f 107 = .bool true := pureX (hR 44 (some 107) rfl)
  have e108 : f 108 = .int .i64 (chkM b m) := pureX (hR 45 (some 108) rfl)
  have e109 : f 109 = .int .i64 (chkM b m) := pureX (hR 46 (some 109) rfl)
  have e110 : f 110 = .bool true := pureX (hR 47 (some 110) rfl)
  have e111 : f 111 = .bool true := pureX (hR 48 (some 111) rfl)
  clear hR
  simp only [List.filterMap_cons, List.filterMap_nil, id, puts, Act.put, List.setIfInBounds_toArray, List.set_cons_succ, List.set_cons_zero, e63, e64, e65, e66, e67, e68, e69, e70, e71, e72, e73, e74, e75, e76, e77, e78, e79, e80, e81, e82, e83, e84, e85, e86, e87, e88, e89, e90, e91, e92, e93, e94, e95, e96, e97, e98, e99, e100, e101, e102, e103, e104, e105, e106, e107, e108, e109, e110, e111]
  have hw : Below w.heap.size w W := hE.below hW7.drew zW7 (by simp <;> omega)
  clear hE
  go_wp2
  go_returns
  exact ⟨rfl, hw⟩
end Go.Proofs.Ytafdcbdbllpcnaa
