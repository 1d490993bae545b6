/- Contracts of package camel's worker.camel and After: what they return, for every breed, animal and day. -/
import Derived.Test.YtafdcbdbllpcnaaLeafI
import Derived.Test.YtafdcbdbllpcnaaLeafK
import Derived.Test.YtafdcbdbllpcnaaRefA
import Derived.Test.YtafdcbdbllpcnaaLate
set_option linter.unusedVariables false
set_option linter.unusedSimpArgs false
namespace Go.Proofs.Ytafdcbdbllpcnaa
open Go.RowKit
open Go.Proofs

attribute [local go_sem ↓] exec36l exec112l exec36s exec112s exec31s run_min2 run_max2
attribute [local go_sem] load36 load112 store36 store112 store31 build112 rowOf_alloc rowOf_drew setRow_alloc one_int one_bool run_min4
attribute [local go_sem ↓] exec39s
attribute [local go_sem] store39 build39z build39_4

/-- The error of a day; the animal behind it, and its fate. -/
def chkA (b : Br) (c : Cm) (m : Mr) : Int := if chkC b c = 0 then (if okM m = true then (if diesS b c m = true then 13 else 0) else 12) else chkC b c
def aftC (b : Br) (c : Cm) (m : Mr) : Cm := if chkA b c m = 0 then eveC b c m else zc false
def aftF (b : Br) (c : Cm) (m : Mr) : Int := if chkA b c m = 0 then (if openS b c m = true then 1 else 0) else 0

theorem camel_any (b : Br) (c : Cm) (w : World) :
    Calls Try.prog 66 #[.agg #[.int .i64 b.full, .int .i64 b.fed, .int .i64 b.rest.1, .int .i64 b.rest.2, .int .i64 b.heat.1, .int .i64 b.heat.2, .int .i64 b.toil.1, .int .i64 b.toil.2, .int .i64 b.burn.1, .int .i64 b.burn.2, .int .i64 b.rub.1, .int .i64 b.rub.2, .int .i64 b.milk.1, .int .i64 b.milk.2, .int .i64 b.heal, .int .i64 b.strong.1, .int .i64 b.strong.2, .int .i64 c.water.1, .int .i64 c.water.2, .int .i64 c.fat.1, .int .i64 c.fat.2, .int .i64 c.sore.1, .int .i64 c.sore.2, .bool c.milks]] w fun e w' => e = .returned (.agg #[.int .i64 c.water.1, .int .i64 c.water.2, .int .i64 c.fat.1, .int .i64 c.fat.2, .int .i64 c.sore.1, .int .i64 c.sore.2, .bool c.milks]) ∧ Below w.heap.size w w' := by
  go_enter Try.func66, Try.ntmps66
  go_wp2
  exact bodyPost_ret (res39 Try.results66 rfl (cs := #[.int .i64 c.water.1, .int .i64 c.water.2, .int .i64 c.fat.1, .int .i64 c.fat.2, .int .i64 c.sore.1, .int .i64 c.sore.2, .bool c.milks]) (by simp [rowOf_alloc]) rfl) rfl ⟨rfl, by go_grown⟩

theorem After_bad (b : Br) (c : Cm) (m : Mr) (x : Int) (w : World) (hx : chkC b c = x) (h0 : x ≠ 0) :
    Calls Try.prog 25 #[.agg #[.int .i64 b.full, .int .i64 b.fed, .int .i64 b.rest.1, .int .i64 b.rest.2, .int .i64 b.heat.1, .int .i64 b.heat.2, .int .i64 b.toil.1, .int .i64 b.toil.2, .int .i64 b.burn.1, .int .i64 b.burn.2, .int .i64 b.rub.1, .int .i64 b.rub.2, .int .i64 b.milk.1, .int .i64 b.milk.2, .int .i64 b.heal, .int .i64 b.strong.1, .int .i64 b.strong.2], .agg #[.int .i64 c.water.1, .int .i64 c.water.2, .int .i64 c.fat.1, .int .i64 c.fat.2, .int .i64 c.sore.1, .int .i64 c.sore.2, .bool c.milks], .agg #[.int .i64 m.hours, .int .i64 m.load, .int .i64 m.heat.1, .int .i64 m.heat.2, .int .i64 m.grass.1, .int .i64 m.grass.2, .int .i64 m.drinks.1, .int .i64 m.drinks.2]] w fun e w' => e = .returned (.tuple #[.agg #[.int .i64 0, .int .i64 0, .int .i64 0, .int .i64 0, .int .i64 0, .int .i64 0, .bool false], .int .u8 0, .int .i64 x]) ∧ Below w.heap.size w w' := by
  have hcall := fun w => CheckCamel_any b c w
  simp only [hx] at hcall
  have HC := Lib.hid hcall
  have hne : (x == 0) = false := by simpa using h0
  clear hcall hx
  go_enter Try.func25, Try.ntmps25
  go_wp2_with fail
  refine (HC.out _).mono ?_
  rintro e W1 ⟨rfl, hB⟩
  have hW1 : Below w.heap.size w W1 := Below.trans (by go_grown) (hB.mono (by simp; try omega))
  have zW1 := hW1.size
  obtain ⟨rdW1, cdW1, gdW1, zdW1⟩ := keep_row hB (g := w.heap.size + 1 + 1 + 1) (by repeat (first | with_reducible assumption | with_reducible apply row_here0 | with_reducible apply row_here1 | with_reducible apply row_here2 | with_reducible apply row_here3 | with_reducible apply rowSkip))
  clear hB
  go_wp2
  exact bodyPost_ret (results39_3 Try.results25 rfl (stored_setRow rdW1 _).row rfl (v := .int .u8 0) rfl (v' := .int .i64 x) rfl) rfl ⟨rfl, Below_setRow hW1 (by omega) _⟩

theorem After_march (b : Br) (c : Cm) (m : Mr) (w : World) (hx : chkC b c = 0) (hm : okM m = false) :
    Calls Try.prog 25 #[.agg #[.int .i64 b.full, .int .i64 b.fed, .int .i64 b.rest.1, .int .i64 b.rest.2, .int .i64 b.heat.1, .int .i64 b.heat.2, .int .i64 b.toil.1, .int .i64 b.toil.2, .int .i64 b.burn.1, .int .i64 b.burn.2, .int .i64 b.rub.1, .int .i64 b.rub.2, .int .i64 b.milk.1, .int .i64 b.milk.2, .int .i64 b.heal, .int .i64 b.strong.1, .int .i64 b.strong.2], .agg #[.int .i64 c.water.1, .int .i64 c.water.2, .int .i64 c.fat.1, .int .i64 c.fat.2, .int .i64 c.sore.1, .int .i64 c.sore.2, .bool c.milks], .agg #[.int .i64 m.hours, .int .i64 m.load, .int .i64 m.heat.1, .int .i64 m.heat.2, .int .i64 m.grass.1, .int .i64 m.grass.2, .int .i64 m.drinks.1, .int .i64 m.drinks.2]] w fun e w' => e = .returned (.tuple #[.agg #[.int .i64 0, .int .i64 0, .int .i64 0, .int .i64 0, .int .i64 0, .int .i64 0, .bool false], .int .u8 0, .int .i64 12]) ∧ Below w.heap.size w w' := by
  have hcall := fun w => CheckCamel_any b c w
  simp only [hx] at hcall
  have HC := Lib.hid hcall
  have H2 := Lib.hid hm
  clear hcall hx hm
  go_enter Try.func25, Try.ntmps25
  go_wp2_with fail
  refine (HC.out _).mono ?_
  rintro e W0 ⟨rfl, hB⟩
  have hW0 : Below w.heap.size w W0 := Below.trans (by go_grown) (hB.mono (by simp; try omega))
  have zW0 := hW0.size
  obtain ⟨rcW0, ccW0, gcW0, zcW0⟩ := keep_row hB (g := w.heap.size + 1 + 1) (by repeat (first | with_reducible assumption | with_reducible apply row_here0 | with_reducible apply row_here1 | with_reducible apply row_here2 | with_reducible apply row_here3 | with_reducible apply rowSkip))
  obtain ⟨rdW0, cdW0, gdW0, zdW0⟩ := keep_row hB (g := w.heap.size + 1 + 1 + 1) (by repeat (first | with_reducible assumption | with_reducible apply row_here0 | with_reducible apply row_here1 | with_reducible apply row_here2 | with_reducible apply row_here3 | with_reducible apply rowSkip))
  clear hB
  go_wp2_with fail
  refine (checkMarch1 m _ H2.out _ _ _ (row_here0 _ _ _) (by simp)).mono ?_
  rintro e W1 ⟨rfl, hB⟩
  have hW1 : Below w.heap.size w W1 := hW0.trans (Below.trans (by have := hW0.size; go_grown) (hB.mono (by have := hW0.size; simp; try omega)))
  have zW1 := hW1.size
  obtain ⟨rdW1, cdW1, gdW1, zdW1⟩ := keep_row hB (g := w.heap.size + 1 + 1 + 1) (by repeat (first | with_reducible assumption | with_reducible apply row_here0 | with_reducible apply row_here1 | with_reducible apply row_here2 | with_reducible apply row_here3 | with_reducible apply rowSkip))
  clear hB
  go_wp2
  exact bodyPost_ret (results39_3 Try.results25 rfl (stored_setRow rdW1 _).row rfl (v := .int .u8 0) rfl (v' := .int .i64 12) rfl) rfl ⟨rfl, Below_setRow hW1 (by omega) _⟩

theorem after_x (b : Br) (c : Cm) (m : Mr) (ra : Array Value) (rf : Int) (h1 : aftW b c m = ra) (h2 : fateS b c m = rf) (w : World) (hb : BdB b) (hc : BdC b c) (hm : BdM m) :
    Calls Try.prog 65 #[.agg #[.int .i64 b.full, .int .i64 b.fed, .int .i64 b.rest.1, .int .i64 b.rest.2, .int .i64 b.heat.1, .int .i64 b.heat.2, .int .i64 b.toil.1, .int .i64 b.toil.2, .int .i64 b.burn.1, .int .i64 b.burn.2, .int .i64 b.rub.1, .int .i64 b.rub.2, .int .i64 b.milk.1, .int .i64 b.milk.2, .int .i64 b.heal, .int .i64 b.strong.1, .int .i64 b.strong.2, .int .i64 c.water.1, .int .i64 c.water.2, .int .i64 c.fat.1, .int .i64 c.fat.2, .int .i64 c.sore.1, .int .i64 c.sore.2, .bool c.milks], .agg #[.int .i64 m.hours, .int .i64 m.load, .int .i64 m.heat.1, .int .i64 m.heat.2, .int .i64 m.grass.1, .int .i64 m.grass.2, .int .i64 m.drinks.1, .int .i64 m.drinks.2]] w fun e w' => e = .returned (.tuple #[.agg ra, .int .u8 rf]) ∧ Below w.heap.size w w' := by
  subst h1 h2; exact after_any b c m w hb hc hm

set_option maxRecDepth 100000 in
set_option maxHeartbeats 4000000 in
theorem After_dies (b : Br) (c : Cm) (m : Mr) (w : World) (hx : chkC b c = 0) (hm : okM m = true) (h1 : aftW b c m = #[.int .i64 0, .int .i64 0, .int .i64 0, .int .i64 0, .int .i64 0, .int .i64 0, .int .i64 0, .int .i64 0, .int .i64 0, .int .i64 0, .int .i64 0, .int .i64 0, .int .i64 0, .int .i64 0, .int .i64 0, .int .i64 0, .int .i64 0, .int .i64 0, .int .i64 0, .int .i64 0, .int .i64 0, .int .i64 0, .int .i64 0, .bool false]) (h2 : fateS b c m = 2) :
    Calls Try.prog 25 #[.agg #[.int .i64 b.full, .int .i64 b.fed, .int .i64 b.rest.1, .int .i64 b.rest.2, .int .i64 b.heat.1, .int .i64 b.heat.2, .int .i64 b.toil.1, .int .i64 b.toil.2, .int .i64 b.burn.1, .int .i64 b.burn.2, .int .i64 b.rub.1, .int .i64 b.rub.2, .int .i64 b.milk.1, .int .i64 b.milk.2, .int .i64 b.heal, .int .i64 b.strong.1, .int .i64 b.strong.2], .agg #[.int .i64 c.water.1, .int .i64 c.water.2, .int .i64 c.fat.1, .int .i64 c.fat.2, .int .i64 c.sore.1, .int .i64 c.sore.2, .bool c.milks], .agg #[.int .i64 m.hours, .int .i64 m.load, .int .i64 m.heat.1, .int .i64 m.heat.2, .int .i64 m.grass.1, .int .i64 m.grass.2, .int .i64 m.drinks.1, .int .i64 m.drinks.2]] w fun e w' => e = .returned (.tuple #[.agg #[.int .i64 0, .int .i64 0, .int .i64 0, .int .i64 0, .int .i64 0, .int .i64 0, .bool false], .int .u8 0, .int .i64 13]) ∧ Below w.heap.size w w' := by
  have HB := Lib.hid (chkC_ok hx)
  have hcall := fun w => CheckCamel_any b c w
  simp only [hx] at hcall
  have HC := Lib.hid hcall
  have H2 := Lib.hid hm
  have H3 := Lib.hid h1
  have H4 := Lib.hid h2
  clear hcall hx hm h1 h2
  go_enter Try.func25, Try.ntmps25
  go_wp2_with fail
  refine (HC.out _).mono ?_
  rintro e W0 ⟨rfl, hB⟩
  have hW0 : Below w.heap.size w W0 := Below.trans (by go_grown) (hB.mono (by simp; try omega))
  have zW0 := hW0.size
  obtain ⟨raW0, caW0, gaW0, zaW0⟩ := keep_row hB (g := w.heap.size) (by repeat (first | with_reducible assumption | with_reducible apply row_here0 | with_reducible apply row_here1 | with_reducible apply row_here2 | with_reducible apply row_here3 | with_reducible apply rowSkip))
  obtain ⟨rbW0, cbW0, gbW0, zbW0⟩ := keep_row hB (g := w.heap.size + 1) (by repeat (first | with_reducible assumption | with_reducible apply row_here0 | with_reducible apply row_here1 | with_reducible apply row_here2 | with_reducible apply row_here3 | with_reducible apply rowSkip))
  obtain ⟨rcW0, ccW0, gcW0, zcW0⟩ := keep_row hB (g := w.heap.size + 1 + 1) (by repeat (first | with_reducible assumption | with_reducible apply row_here0 | with_reducible apply row_here1 | with_reducible apply row_here2 | with_reducible apply row_here3 | with_reducible apply rowSkip))
  obtain ⟨rdW0, cdW0, gdW0, zdW0⟩ := keep_row hB (g := w.heap.size + 1 + 1 + 1) (by repeat (first | with_reducible assumption | with_reducible apply row_here0 | with_reducible apply row_here1 | with_reducible apply row_here2 | with_reducible apply row_here3 | with_reducible apply rowSkip))
  clear hB
  go_wp2_with fail
  refine (checkMarch1 m _ H2.out _ _ _ (row_here0 _ _ _) (by simp)).mono ?_
  rintro e W1 ⟨rfl, hB⟩
  have hW1 : Below w.heap.size w W1 := hW0.trans (Below.trans (by have := hW0.size; go_grown) (hB.mono (by have := hW0.size; simp; try omega)))
  have zW1 := hW1.size
  obtain ⟨raW1, caW1, gaW1, zaW1⟩ := keep_row hB (g := w.heap.size) (by repeat (first | with_reducible assumption | with_reducible apply row_here0 | with_reducible apply row_here1 | with_reducible apply row_here2 | with_reducible apply row_here3 | with_reducible apply rowSkip))
  obtain ⟨rbW1, cbW1, gbW1, zbW1⟩ := keep_row hB (g := w.heap.size + 1) (by repeat (first | with_reducible assumption | with_reducible apply row_here0 | with_reducible apply row_here1 | with_reducible apply row_here2 | with_reducible apply row_here3 | with_reducible apply rowSkip))
  obtain ⟨rcW1, ccW1, gcW1, zcW1⟩ := keep_row hB (g := w.heap.size + 1 + 1) (by repeat (first | with_reducible assumption | with_reducible apply row_here0 | with_reducible apply row_here1 | with_reducible apply row_here2 | with_reducible apply row_here3 | with_reducible apply rowSkip))
  obtain ⟨rdW1, cdW1, gdW1, zdW1⟩ := keep_row hB (g := w.heap.size + 1 + 1 + 1) (by repeat (first | with_reducible assumption | with_reducible apply row_here0 | with_reducible apply row_here1 | with_reducible apply row_here2 | with_reducible apply row_here3 | with_reducible apply rowSkip))
  clear hB
  go_wp2_with fail
  clear raW0 caW0 gaW0 rbW0 cbW0 gbW0 rcW0 ccW0 gcW0 rdW0 cdW0 gdW0
  refine wp_drawy (by kernel_rfl) (XN (W1.heap.size) #[.int .i64 0, .int .i64 0, .int .i64 0, .int .i64 0, .int .i64 0, .int .i64 0, .int .i64 0, .int .i64 0, .int .i64 0, .int .i64 0, .int .i64 0, .int .i64 0, .int .i64 0, .int .i64 0, .int .i64 0, .int .i64 0, .int .i64 0, .int .i64 0, .int .i64 0, .int .i64 0, .int .i64 0, .int .i64 0, .int .i64 0, .bool false] #[.int .i64 0, .int .i64 0, .int .i64 0, .int .i64 0, .int .i64 0, .int .i64 0, .int .i64 0, .int .i64 0, .int .i64 0, .int .i64 0, .int .i64 0, .int .i64 0, .int .i64 0, .int .i64 0, .int .i64 0, .int .i64 0, .int .i64 0, .int .i64 0, .int .i64 0, .int .i64 0, .int .i64 0, .int .i64 0, .int .i64 0, .bool false]) (fun j => match j with | 9 => 11 | _ => 0) XN.refl (fun _ _ _ => XN.trans) [some 27, some 28, some 29, some 30, some 31, some 26, some 32, some 33, some 11, none] (by kernel_rfl) (by kernel_rfl) (fun ix v W => match ix with
    | 0 => v = .agg #[.int .i64 b.full, .int .i64 b.fed, .int .i64 b.rest.1, .int .i64 b.rest.2, .int .i64 b.heat.1, .int .i64 b.heat.2, .int .i64 b.toil.1, .int .i64 b.toil.2, .int .i64 b.burn.1, .int .i64 b.burn.2, .int .i64 b.rub.1, .int .i64 b.rub.2, .int .i64 b.milk.1, .int .i64 b.milk.2, .int .i64 b.heal, .int .i64 b.strong.1, .int .i64 b.strong.2]
    | 1 => v = .agg #[.int .i64 c.water.1, .int .i64 c.water.2, .int .i64 c.fat.1, .int .i64 c.fat.2, .int .i64 c.sore.1, .int .i64 c.sore.2, .bool c.milks]
    | 2 => v = .agg #[.int .i64 b.full, .int .i64 b.fed, .int .i64 b.rest.1, .int .i64 b.rest.2, .int .i64 b.heat.1, .int .i64 b.heat.2, .int .i64 b.toil.1, .int .i64 b.toil.2, .int .i64 b.burn.1, .int .i64 b.burn.2, .int .i64 b.rub.1, .int .i64 b.rub.2, .int .i64 b.milk.1, .int .i64 b.milk.2, .int .i64 b.heal, .int .i64 b.strong.1, .int .i64 b.strong.2, .int .i64 c.water.1, .int .i64 c.water.2, .int .i64 c.fat.1, .int .i64 c.fat.2, .int .i64 c.sore.1, .int .i64 c.sore.2, .bool c.milks]
    | 3 => v = .agg #[.int .i64 m.hours, .int .i64 m.load, .int .i64 m.heat.1, .int .i64 m.heat.2, .int .i64 m.grass.1, .int .i64 m.grass.2, .int .i64 m.drinks.1, .int .i64 m.drinks.2]
    | 4 => v = .tuple #[.agg #[.int .i64 0, .int .i64 0, .int .i64 0, .int .i64 0, .int .i64 0, .int .i64 0, .int .i64 0, .int .i64 0, .int .i64 0, .int .i64 0, .int .i64 0, .int .i64 0, .int .i64 0, .int .i64 0, .int .i64 0, .int .i64 0, .int .i64 0, .int .i64 0, .int .i64 0, .int .i64 0, .int .i64 0, .int .i64 0, .int .i64 0, .bool false], .int .u8 2]
    | 5 => v = .tuple #[.agg #[.int .i64 0, .int .i64 0, .int .i64 0, .int .i64 0, .int .i64 0, .int .i64 0, .int .i64 0, .int .i64 0, .int .i64 0, .int .i64 0, .int .i64 0, .int .i64 0, .int .i64 0, .int .i64 0, .int .i64 0, .int .i64 0, .int .i64 0, .int .i64 0, .int .i64 0, .int .i64 0, .int .i64 0, .int .i64 0, .int .i64 0, .bool false], .int .u8 2]
    | 6 => v = .agg #[.int .i64 0, .int .i64 0, .int .i64 0, .int .i64 0, .int .i64 0, .int .i64 0, .int .i64 0, .int .i64 0, .int .i64 0, .int .i64 0, .int .i64 0, .int .i64 0, .int .i64 0, .int .i64 0, .int .i64 0, .int .i64 0, .int .i64 0, .int .i64 0, .int .i64 0, .int .i64 0, .int .i64 0, .int .i64 0, .int .i64 0, .bool false]
    | 7 => v = .int .u8 2
    | 8 => NB (W1.heap.size) #[.int .i64 0, .int .i64 0, .int .i64 0, .int .i64 0, .int .i64 0, .int .i64 0, .int .i64 0, .int .i64 0, .int .i64 0, .int .i64 0, .int .i64 0, .int .i64 0, .int .i64 0, .int .i64 0, .int .i64 0, .int .i64 0, .int .i64 0, .int .i64 0, .int .i64 0, .int .i64 0, .int .i64 0, .int .i64 0, .int .i64 0, .bool false] #[.int .i64 0, .int .i64 0, .int .i64 0, .int .i64 0, .int .i64 0, .int .i64 0, .int .i64 0, .int .i64 0, .int .i64 0, .int .i64 0, .int .i64 0, .int .i64 0, .int .i64 0, .int .i64 0, .int .i64 0, .int .i64 0, .int .i64 0, .int .i64 0, .int .i64 0, .int .i64 0, .int .i64 0, .int .i64 0, .int .i64 0, .bool false] v W
    | 9 => SB #[.int .i64 0, .int .i64 0, .int .i64 0, .int .i64 0, .int .i64 0, .int .i64 0, .int .i64 0, .int .i64 0, .int .i64 0, .int .i64 0, .int .i64 0, .int .i64 0, .int .i64 0, .int .i64 0, .int .i64 0, .int .i64 0, .int .i64 0, .int .i64 0, .int .i64 0, .int .i64 0, .int .i64 0, .int .i64 0, .int .i64 0, .bool false] v W
    | _ => True) ⟨⟨?_, ?_⟩, ⟨?_, ?_⟩, ⟨?_, ?_⟩, ⟨?_, ?_⟩, ⟨?_, ?_⟩, ⟨?_, ?_⟩, ⟨?_, ?_⟩, ⟨?_, ?_⟩, ⟨?_, ?_⟩, ⟨?_, ?_⟩, ?_⟩
  · intro g h; cases h
  · intro b' W hE hb hdep K hK
    have e3 : b'.tmps[3]?.getD undef = .pointer (some ⟨w.heap.size, 0, none⟩) := hb 3 (by decide)
    clear hdep hb
    obtain ⟨_, _, -, _⟩ := row_facts (hE.row ((rowOf_drew _ _).trans raW1) (by omega))
    obtain ⟨_, _, -, _⟩ := row_facts (hE.row ((rowOf_drew _ _).trans rbW1) (by omega))
    obtain ⟨_, _, -, _⟩ := row_facts (hE.row ((rowOf_drew _ _).trans rcW1) (by omega))
    go_wp2
    exact hK _ _ (XN.refl _) rfl
  · intro g h; cases h
  · intro b' W hE hb hdep K hK
    have e4 : b'.tmps[4]?.getD undef = .pointer (some ⟨w.heap.size + 1, 0, none⟩) := hb 4 (by decide)
    clear hdep hb
    obtain ⟨_, _, -, _⟩ := row_facts (hE.row ((rowOf_drew _ _).trans raW1) (by omega))
    obtain ⟨_, _, -, _⟩ := row_facts (hE.row ((rowOf_drew _ _).trans rbW1) (by omega))
    obtain ⟨_, _, -, _⟩ := row_facts (hE.row ((rowOf_drew _ _).trans rcW1) (by omega))
    go_wp2
    exact hK _ _ (XN.refl _) rfl
  · intro g h; cases h
  · intro b' W hE hb hdep K hK
    have e27 : b'.tmps[27]?.getD undef = .agg #[.int .i64 b.full, .int .i64 b.fed, .int .i64 b.rest.1, .int .i64 b.rest.2, .int .i64 b.heat.1, .int .i64 b.heat.2, .int .i64 b.toil.1, .int .i64 b.toil.2, .int .i64 b.burn.1, .int .i64 b.burn.2, .int .i64 b.rub.1, .int .i64 b.rub.2, .int .i64 b.milk.1, .int .i64 b.milk.2, .int .i64 b.heal, .int .i64 b.strong.1, .int .i64 b.strong.2] := pureN (hdep 0 (some 27) (by kernel_rfl) rfl)
    have e28 : b'.tmps[28]?.getD undef = .agg #[.int .i64 c.water.1, .int .i64 c.water.2, .int .i64 c.fat.1, .int .i64 c.fat.2, .int .i64 c.sore.1, .int .i64 c.sore.2, .bool c.milks] := pureN (hdep 1 (some 28) (by kernel_rfl) rfl)
    clear hdep hb
    go_wp2_with fail
    refine (atWork_any b c _).mono ?_
    rintro e W' ⟨rfl, hB⟩
    exact hK _ _ (Ext.xn hB) rfl
  · intro g h; cases h
  · intro b' W hE hb hdep K hK
    have e5 : b'.tmps[5]?.getD undef = .pointer (some ⟨w.heap.size + 1 + 1, 0, none⟩) := hb 5 (by decide)
    clear hdep hb
    obtain ⟨_, _, -, _⟩ := row_facts (hE.row ((rowOf_drew _ _).trans raW1) (by omega))
    obtain ⟨_, _, -, _⟩ := row_facts (hE.row ((rowOf_drew _ _).trans rbW1) (by omega))
    obtain ⟨_, _, -, _⟩ := row_facts (hE.row ((rowOf_drew _ _).trans rcW1) (by omega))
    go_wp2
    exact hK _ _ (XN.refl _) rfl
  · intro g h; cases h
  · intro b' W hE hb hdep K hK
    have e29 : b'.tmps[29]?.getD undef = .agg #[.int .i64 b.full, .int .i64 b.fed, .int .i64 b.rest.1, .int .i64 b.rest.2, .int .i64 b.heat.1, .int .i64 b.heat.2, .int .i64 b.toil.1, .int .i64 b.toil.2, .int .i64 b.burn.1, .int .i64 b.burn.2, .int .i64 b.rub.1, .int .i64 b.rub.2, .int .i64 b.milk.1, .int .i64 b.milk.2, .int .i64 b.heal, .int .i64 b.strong.1, .int .i64 b.strong.2, .int .i64 c.water.1, .int .i64 c.water.2, .int .i64 c.fat.1, .int .i64 c.fat.2, .int .i64 c.sore.1, .int .i64 c.sore.2, .bool c.milks] := pureN (hdep 2 (some 29) (by kernel_rfl) rfl)
    have e30 : b'.tmps[30]?.getD undef = .agg #[.int .i64 m.hours, .int .i64 m.load, .int .i64 m.heat.1, .int .i64 m.heat.2, .int .i64 m.grass.1, .int .i64 m.grass.2, .int .i64 m.drinks.1, .int .i64 m.drinks.2] := pureN (hdep 3 (some 30) (by kernel_rfl) rfl)
    clear hdep hb
    go_wp2_with fail
    refine (after_x b c m _ _ H3.out H4.out _ HB.out.1 HB.out.2 (okM_bd H2.out)).mono ?_
    rintro e W' ⟨rfl, hB⟩
    exact hK _ _ (Ext.xn hB) rfl
  · intro g h; cases h
  · intro b' W hE hb hdep K hK
    have e31 : b'.tmps[31]?.getD undef = .tuple #[.agg #[.int .i64 0, .int .i64 0, .int .i64 0, .int .i64 0, .int .i64 0, .int .i64 0, .int .i64 0, .int .i64 0, .int .i64 0, .int .i64 0, .int .i64 0, .int .i64 0, .int .i64 0, .int .i64 0, .int .i64 0, .int .i64 0, .int .i64 0, .int .i64 0, .int .i64 0, .int .i64 0, .int .i64 0, .int .i64 0, .int .i64 0, .bool false], .int .u8 2] := pureN (hdep 4 (some 31) (by kernel_rfl) rfl)
    clear hdep hb
    go_wp2
    exact hK _ _ (XN.refl _) rfl
  · intro g h; cases h
  · intro b' W hE hb hdep K hK
    have e26 : b'.tmps[26]?.getD undef = .tuple #[.agg #[.int .i64 0, .int .i64 0, .int .i64 0, .int .i64 0, .int .i64 0, .int .i64 0, .int .i64 0, .int .i64 0, .int .i64 0, .int .i64 0, .int .i64 0, .int .i64 0, .int .i64 0, .int .i64 0, .int .i64 0, .int .i64 0, .int .i64 0, .int .i64 0, .int .i64 0, .int .i64 0, .int .i64 0, .int .i64 0, .int .i64 0, .bool false], .int .u8 2] := pureN (hdep 5 (some 26) (by kernel_rfl) rfl)
    clear hdep hb
    go_wp2
    exact hK _ _ (XN.refl _) rfl
  · intro g h; cases h
  · intro b' W hE hb hdep K hK
    have e26 : b'.tmps[26]?.getD undef = .tuple #[.agg #[.int .i64 0, .int .i64 0, .int .i64 0, .int .i64 0, .int .i64 0, .int .i64 0, .int .i64 0, .int .i64 0, .int .i64 0, .int .i64 0, .int .i64 0, .int .i64 0, .int .i64 0, .int .i64 0, .int .i64 0, .int .i64 0, .int .i64 0, .int .i64 0, .int .i64 0, .int .i64 0, .int .i64 0, .int .i64 0, .int .i64 0, .bool false], .int .u8 2] := pureN (hdep 5 (some 26) (by kernel_rfl) rfl)
    clear hdep hb
    go_wp2
    exact hK _ _ (XN.refl _) rfl
  · intro g h; cases h
  · intro b' W hE hb hdep K hK
    clear hdep hb
    go_wp2
    exact hK _ _ (Ext.xn (ext_alloc _ _)) ⟨rfl, by have := hE.size; simp at this; simp [blk]; omega, .inl (row_here0 _ _ _)⟩
  · intro g h; cases h
  · intro b' W hE hb hdep K hK
    have n11 : NB (W1.heap.size) #[.int .i64 0, .int .i64 0, .int .i64 0, .int .i64 0, .int .i64 0, .int .i64 0, .int .i64 0, .int .i64 0, .int .i64 0, .int .i64 0, .int .i64 0, .int .i64 0, .int .i64 0, .int .i64 0, .int .i64 0, .int .i64 0, .int .i64 0, .int .i64 0, .int .i64 0, .int .i64 0, .int .i64 0, .int .i64 0, .int .i64 0, .bool false] #[.int .i64 0, .int .i64 0, .int .i64 0, .int .i64 0, .int .i64 0, .int .i64 0, .int .i64 0, .int .i64 0, .int .i64 0, .int .i64 0, .int .i64 0, .int .i64 0, .int .i64 0, .int .i64 0, .int .i64 0, .int .i64 0, .int .i64 0, .int .i64 0, .int .i64 0, .int .i64 0, .int .i64 0, .int .i64 0, .int .i64 0, .bool false] (b'.tmps[11]?.getD undef) W := nbR (hdep 8 (some 11) (by kernel_rfl) rfl)
    have e32 : b'.tmps[32]?.getD undef = .agg #[.int .i64 0, .int .i64 0, .int .i64 0, .int .i64 0, .int .i64 0, .int .i64 0, .int .i64 0, .int .i64 0, .int .i64 0, .int .i64 0, .int .i64 0, .int .i64 0, .int .i64 0, .int .i64 0, .int .i64 0, .int .i64 0, .int .i64 0, .int .i64 0, .int .i64 0, .int .i64 0, .int .i64 0, .int .i64 0, .int .i64 0, .bool false] := pureN (hdep 6 (some 32) (by kernel_rfl) rfl)
    clear hdep hb
    exact wp_store_nb 112 11 (.tmp 32) rfl rfl n11 ((eval_tmp _ _).trans e32) (by kernel_rfl) rfl (by simp [one_int, one_bool]) (fun W' h1 h2 => hK W' h1 h2)
  intro f W hE hR
  have e27 : f 27 = .agg #[.int .i64 b.full, .int .i64 b.fed, .int .i64 b.rest.1, .int .i64 b.rest.2, .int .i64 b.heat.1, .int .i64 b.heat.2, .int .i64 b.toil.1, .int .i64 b.toil.2, .int .i64 b.burn.1, .int .i64 b.burn.2, .int .i64 b.rub.1, .int .i64 b.rub.2, .int .i64 b.milk.1, .int .i64 b.milk.2, .int .i64 b.heal, .int .i64 b.strong.1, .int .i64 b.strong.2] := pureN (hR 0 (some 27) rfl)
  have e28 : f 28 = .agg #[.int .i64 c.water.1, .int .i64 c.water.2, .int .i64 c.fat.1, .int .i64 c.fat.2, .int .i64 c.sore.1, .int .i64 c.sore.2, .bool c.milks] := pureN (hR 1 (some 28) rfl)
  have e29 : f 29 = .agg #[.int .i64 b.full, .int .i64 b.fed, .int .i64 b.rest.1, .int .i64 b.rest.2, .int .i64 b.heat.1, .int .i64 b.heat.2, .int .i64 b.toil.1, .int .i64 b.toil.2, .int .i64 b.burn.1, .int .i64 b.burn.2, .int .i64 b.rub.1, .int .i64 b.rub.2, .int .i64 b.milk.1, .int .i64 b.milk.2, .int .i64 b.heal, .int .i64 b.strong.1, .int .i64 b.strong.2, .int .i64 c.water.1, .int .i64 c.water.2, .int .i64 c.fat.1, .int .i64 c.fat.2, .int .i64 c.sore.1, .int .i64 c.sore.2, .bool c.milks] := pureN (hR 2 (some 29) rfl)
  have e30 : f 30 = .agg #[.int .i64 m.hours, .int .i64 m.load, .int .i64 m.heat.1, .int .i64 m.heat.2, .int .i64 m.grass.1, .int .i64 m.grass.2, .int .i64 m.drinks.1, .int .i64 m.drinks.2] := pureN (hR 3 (some 30) rfl)
  have e31 : f 31 = .tuple #[.agg #[.int .i64 0, .int .i64 0, .int .i64 0, .int .i64 0, .int .i64 0, .int .i64 0, .int .i64 0, .int .i64 0, .int .i64 0, .int .i64 0, .int .i64 0, .int .i64 0, .int .i64 0, .int .i64 0, .int .i64 0, .int .i64 0, .int .i64 0, .int .i64 0, .int .i64 0, .int .i64 0, .int .i64 0, .int .i64 0, .int .i64 0, .bool false], .int .u8 2] := pureN (hR 4 (some 31) rfl)
  have e26 : f 26 = .tuple #[.agg #[.int .i64 0, .int .i64 0, .int .i64 0, .int .i64 0, .int .i64 0, .int .i64 0, .int .i64 0, .int .i64 0, .int .i64 0, .int .i64 0, .int .i64 0, .int .i64 0, .int .i64 0, .int .i64 0, .int .i64 0, .int .i64 0, .int .i64 0, .int .i64 0, .int .i64 0, .int .i64 0, .int .i64 0, .int .i64 0, .int .i64 0, .bool false], .int .u8 2] := pureN (hR 5 (some 26) rfl)
  have e32 : f 32 = .agg #[.int .i64 0, .int .i64 0, .int .i64 0, .int .i64 0, .int .i64 0, .int .i64 0, .int .i64 0, .int .i64 0, .int .i64 0, .int .i64 0, .int .i64 0, .int .i64 0, .int .i64 0, .int .i64 0, .int .i64 0, .int .i64 0, .int .i64 0, .int .i64 0, .int .i64 0, .int .i64 0, .int .i64 0, .int .i64 0, .int .i64 0, .bool false] := pureN (hR 6 (some 32) rfl)
  have e33 : f 33 = .int .u8 2 := pureN (hR 7 (some 33) rfl)
  have n11 : NB (W1.heap.size) #[.int .i64 0, .int .i64 0, .int .i64 0, .int .i64 0, .int .i64 0, .int .i64 0, .int .i64 0, .int .i64 0, .int .i64 0, .int .i64 0, .int .i64 0, .int .i64 0, .int .i64 0, .int .i64 0, .int .i64 0, .int .i64 0, .int .i64 0, .int .i64 0, .int .i64 0, .int .i64 0, .int .i64 0, .int .i64 0, .int .i64 0, .bool false] #[.int .i64 0, .int .i64 0, .int .i64 0, .int .i64 0, .int .i64 0, .int .i64 0, .int .i64 0, .int .i64 0, .int .i64 0, .int .i64 0, .int .i64 0, .int .i64 0, .int .i64 0, .int .i64 0, .int .i64 0, .int .i64 0, .int .i64 0, .int .i64 0, .int .i64 0, .int .i64 0, .int .i64 0, .int .i64 0, .int .i64 0, .bool false] (f 11) W := nbR (hR 8 (some 11) rfl)
  have q11 : SB #[.int .i64 0, .int .i64 0, .int .i64 0, .int .i64 0, .int .i64 0, .int .i64 0, .int .i64 0, .int .i64 0, .int .i64 0, .int .i64 0, .int .i64 0, .int .i64 0, .int .i64 0, .int .i64 0, .int .i64 0, .int .i64 0, .int .i64 0, .int .i64 0, .int .i64 0, .int .i64 0, .int .i64 0, .int .i64 0, .int .i64 0, .bool false] (f 11) W := sbR (hR 9 none rfl)
  clear hR
  obtain ⟨h, e11, hbase, rhW2⟩ : ∃ h, f 11 = .pointer (some ⟨h, 0, none⟩) ∧ W1.heap.size ≤ h ∧ rowOf W h = some #[.int .i64 0, .int .i64 0, .int .i64 0, .int .i64 0, .int .i64 0, .int .i64 0, .int .i64 0, .int .i64 0, .int .i64 0, .int .i64 0, .int .i64 0, .int .i64 0, .int .i64 0, .int .i64 0, .int .i64 0, .int .i64 0, .int .i64 0, .int .i64 0, .int .i64 0, .int .i64 0, .int .i64 0, .int .i64 0, .int .i64 0, .bool false] := ⟨blk (f 11), q11.eq, n11.base, q11.row⟩
  have hW2 : Below w.heap.size w W := hE.below hW1.drew zW1 zW1
  obtain ⟨rdW2, cdW2, gdW2, zdW2⟩ := row_facts (hE.row ((rowOf_drew _ _).trans rdW1) zdW1)
  have zW2 := hW2.size
  clear hE n11 q11 raW1 caW1 gaW1 rbW1 cbW1 gbW1 rcW1 ccW1 gcW1 rdW1 cdW1 gdW1
  simp only [List.filterMap_cons, List.filterMap_nil, id, puts, Act.put, List.setIfInBounds_toArray, List.set_cons_succ, List.set_cons_zero, e27, e28, e29, e30, e31, e26, e32, e33, e11]
  go_wp2
  exact bodyPost_ret (results39_3 Try.results25 rfl (stored_setRow rdW2 _).row rfl (v := .int .u8 0) rfl (v' := .int .i64 13) rfl) rfl ⟨rfl, Below_setRow hW2 (by omega) _⟩
set_option maxRecDepth 100000 in
set_option maxHeartbeats 4000000 in
theorem After_open (b : Br) (c : Cm) (m : Mr) (w : World) (hx : chkC b c = 0) (hm : okM m = true) (h1 : aftW b c m = #[.int .i64 b.full, .int .i64 b.fed, .int .i64 b.rest.1, .int .i64 b.rest.2, .int .i64 b.heat.1, .int .i64 b.heat.2, .int .i64 b.toil.1, .int .i64 b.toil.2, .int .i64 b.burn.1, .int .i64 b.burn.2, .int .i64 b.rub.1, .int .i64 b.rub.2, .int .i64 b.milk.1, .int .i64 b.milk.2, .int .i64 b.heal, .int .i64 b.strong.1, .int .i64 b.strong.2, .int .i64 (eveC b c m).water.1, .int .i64 (eveC b c m).water.2, .int .i64 (eveC b c m).fat.1, .int .i64 (eveC b c m).fat.2, .int .i64 (eveC b c m).sore.1, .int .i64 (eveC b c m).sore.2, .bool (eveC b c m).milks]) (h2 : fateS b c m = 1) :
    Calls Try.prog 25 #[.agg #[.int .i64 b.full, .int .i64 b.fed, .int .i64 b.rest.1, .int .i64 b.rest.2, .int .i64 b.heat.1, .int .i64 b.heat.2, .int .i64 b.toil.1, .int .i64 b.toil.2, .int .i64 b.burn.1, .int .i64 b.burn.2, .int .i64 b.rub.1, .int .i64 b.rub.2, .int .i64 b.milk.1, .int .i64 b.milk.2, .int .i64 b.heal, .int .i64 b.strong.1, .int .i64 b.strong.2], .agg #[.int .i64 c.water.1, .int .i64 c.water.2, .int .i64 c.fat.1, .int .i64 c.fat.2, .int .i64 c.sore.1, .int .i64 c.sore.2, .bool c.milks], .agg #[.int .i64 m.hours, .int .i64 m.load, .int .i64 m.heat.1, .int .i64 m.heat.2, .int .i64 m.grass.1, .int .i64 m.grass.2, .int .i64 m.drinks.1, .int .i64 m.drinks.2]] w fun e w' => e = .returned (.tuple #[.agg #[.int .i64 (eveC b c m).water.1, .int .i64 (eveC b c m).water.2, .int .i64 (eveC b c m).fat.1, .int .i64 (eveC b c m).fat.2, .int .i64 (eveC b c m).sore.1, .int .i64 (eveC b c m).sore.2, .bool (eveC b c m).milks], .int .u8 1, .int .i64 0]) ∧ Below w.heap.size w w' := by
  have HB := Lib.hid (chkC_ok hx)
  have hcall := fun w => CheckCamel_any b c w
  simp only [hx] at hcall
  have HC := Lib.hid hcall
  have H2 := Lib.hid hm
  have H3 := Lib.hid h1
  have H4 := Lib.hid h2
  clear hcall hx hm h1 h2
  go_enter Try.func25, Try.ntmps25
  go_wp2_with fail
  refine (HC.out _).mono ?_
  rintro e W0 ⟨rfl, hB⟩
  have hW0 : Below w.heap.size w W0 := Below.trans (by go_grown) (hB.mono (by simp; try omega))
  have zW0 := hW0.size
  obtain ⟨raW0, caW0, gaW0, zaW0⟩ := keep_row hB (g := w.heap.size) (by repeat (first | with_reducible assumption | with_reducible apply row_here0 | with_reducible apply row_here1 | with_reducible apply row_here2 | with_reducible apply row_here3 | with_reducible apply rowSkip))
  obtain ⟨rbW0, cbW0, gbW0, zbW0⟩ := keep_row hB (g := w.heap.size + 1) (by repeat (first | with_reducible assumption | with_reducible apply row_here0 | with_reducible apply row_here1 | with_reducible apply row_here2 | with_reducible apply row_here3 | with_reducible apply rowSkip))
  obtain ⟨rcW0, ccW0, gcW0, zcW0⟩ := keep_row hB (g := w.heap.size + 1 + 1) (by repeat (first | with_reducible assumption | with_reducible apply row_here0 | with_reducible apply row_here1 | with_reducible apply row_here2 | with_reducible apply row_here3 | with_reducible apply rowSkip))
  obtain ⟨rdW0, cdW0, gdW0, zdW0⟩ := keep_row hB (g := w.heap.size + 1 + 1 + 1) (by repeat (first | with_reducible assumption | with_reducible apply row_here0 | with_reducible apply row_here1 | with_reducible apply row_here2 | with_reducible apply row_here3 | with_reducible apply rowSkip))
  clear hB
  go_wp2_with fail
  refine (checkMarch1 m _ H2.out _ _ _ (row_here0 _ _ _) (by simp)).mono ?_
  rintro e W1 ⟨rfl, hB⟩
  have hW1 : Below w.heap.size w W1 := hW0.trans (Below.trans (by have := hW0.size; go_grown) (hB.mono (by have := hW0.size; simp; try omega)))
  have zW1 := hW1.size
  obtain ⟨raW1, caW1, gaW1, zaW1⟩ := keep_row hB (g := w.heap.size) (by repeat (first | with_reducible assumption | with_reducible apply row_here0 | with_reducible apply row_here1 | with_reducible apply row_here2 | with_reducible apply row_here3 | with_reducible apply rowSkip))
  obtain ⟨rbW1, cbW1, gbW1, zbW1⟩ := keep_row hB (g := w.heap.size + 1) (by repeat (first | with_reducible assumption | with_reducible apply row_here0 | with_reducible apply row_here1 | with_reducible apply row_here2 | with_reducible apply row_here3 | with_reducible apply rowSkip))
  obtain ⟨rcW1, ccW1, gcW1, zcW1⟩ := keep_row hB (g := w.heap.size + 1 + 1) (by repeat (first | with_reducible assumption | with_reducible apply row_here0 | with_reducible apply row_here1 | with_reducible apply row_here2 | with_reducible apply row_here3 | with_reducible apply rowSkip))
  obtain ⟨rdW1, cdW1, gdW1, zdW1⟩ := keep_row hB (g := w.heap.size + 1 + 1 + 1) (by repeat (first | with_reducible assumption | with_reducible apply row_here0 | with_reducible apply row_here1 | with_reducible apply row_here2 | with_reducible apply row_here3 | with_reducible apply rowSkip))
  clear hB
  go_wp2_with fail
  clear raW0 caW0 gaW0 rbW0 cbW0 gbW0 rcW0 ccW0 gcW0 rdW0 cdW0 gdW0
  refine wp_drawy (by kernel_rfl) (XN (W1.heap.size) #[.int .i64 0, .int .i64 0, .int .i64 0, .int .i64 0, .int .i64 0, .int .i64 0, .int .i64 0, .int .i64 0, .int .i64 0, .int .i64 0, .int .i64 0, .int .i64 0, .int .i64 0, .int .i64 0, .int .i64 0, .int .i64 0, .int .i64 0, .int .i64 0, .int .i64 0, .int .i64 0, .int .i64 0, .int .i64 0, .int .i64 0, .bool false] #[.int .i64 b.full, .int .i64 b.fed, .int .i64 b.rest.1, .int .i64 b.rest.2, .int .i64 b.heat.1, .int .i64 b.heat.2, .int .i64 b.toil.1, .int .i64 b.toil.2, .int .i64 b.burn.1, .int .i64 b.burn.2, .int .i64 b.rub.1, .int .i64 b.rub.2, .int .i64 b.milk.1, .int .i64 b.milk.2, .int .i64 b.heal, .int .i64 b.strong.1, .int .i64 b.strong.2, .int .i64 (eveC b c m).water.1, .int .i64 (eveC b c m).water.2, .int .i64 (eveC b c m).fat.1, .int .i64 (eveC b c m).fat.2, .int .i64 (eveC b c m).sore.1, .int .i64 (eveC b c m).sore.2, .bool (eveC b c m).milks]) (fun j => match j with | 9 => 11 | _ => 0) XN.refl (fun _ _ _ => XN.trans) [some 27, some 28, some 29, some 30, some 31, some 26, some 32, some 33, some 11, none] (by kernel_rfl) (by kernel_rfl) (fun ix v W => match ix with
    | 0 => v = .agg #[.int .i64 b.full, .int .i64 b.fed, .int .i64 b.rest.1, .int .i64 b.rest.2, .int .i64 b.heat.1, .int .i64 b.heat.2, .int .i64 b.toil.1, .int .i64 b.toil.2, .int .i64 b.burn.1, .int .i64 b.burn.2, .int .i64 b.rub.1, .int .i64 b.rub.2, .int .i64 b.milk.1, .int .i64 b.milk.2, .int .i64 b.heal, .int .i64 b.strong.1, .int .i64 b.strong.2]
    | 1 => v = .agg #[.int .i64 c.water.1, .int .i64 c.water.2, .int .i64 c.fat.1, .int .i64 c.fat.2, .int .i64 c.sore.1, .int .i64 c.sore.2, .bool c.milks]
    | 2 => v = .agg #[.int .i64 b.full, .int .i64 b.fed, .int .i64 b.rest.1, .int .i64 b.rest.2, .int .i64 b.heat.1, .int .i64 b.heat.2, .int .i64 b.toil.1, .int .i64 b.toil.2, .int .i64 b.burn.1, .int .i64 b.burn.2, .int .i64 b.rub.1, .int .i64 b.rub.2, .int .i64 b.milk.1, .int .i64 b.milk.2, .int .i64 b.heal, .int .i64 b.strong.1, .int .i64 b.strong.2, .int .i64 c.water.1, .int .i64 c.water.2, .int .i64 c.fat.1, .int .i64 c.fat.2, .int .i64 c.sore.1, .int .i64 c.sore.2, .bool c.milks]
    | 3 => v = .agg #[.int .i64 m.hours, .int .i64 m.load, .int .i64 m.heat.1, .int .i64 m.heat.2, .int .i64 m.grass.1, .int .i64 m.grass.2, .int .i64 m.drinks.1, .int .i64 m.drinks.2]
    | 4 => v = .tuple #[.agg #[.int .i64 b.full, .int .i64 b.fed, .int .i64 b.rest.1, .int .i64 b.rest.2, .int .i64 b.heat.1, .int .i64 b.heat.2, .int .i64 b.toil.1, .int .i64 b.toil.2, .int .i64 b.burn.1, .int .i64 b.burn.2, .int .i64 b.rub.1, .int .i64 b.rub.2, .int .i64 b.milk.1, .int .i64 b.milk.2, .int .i64 b.heal, .int .i64 b.strong.1, .int .i64 b.strong.2, .int .i64 (eveC b c m).water.1, .int .i64 (eveC b c m).water.2, .int .i64 (eveC b c m).fat.1, .int .i64 (eveC b c m).fat.2, .int .i64 (eveC b c m).sore.1, .int .i64 (eveC b c m).sore.2, .bool (eveC b c m).milks], .int .u8 1]
    | 5 => v = .tuple #[.agg #[.int .i64 b.full, .int .i64 b.fed, .int .i64 b.rest.1, .int .i64 b.rest.2, .int .i64 b.heat.1, .int .i64 b.heat.2, .int .i64 b.toil.1, .int .i64 b.toil.2, .int .i64 b.burn.1, .int .i64 b.burn.2, .int .i64 b.rub.1, .int .i64 b.rub.2, .int .i64 b.milk.1, .int .i64 b.milk.2, .int .i64 b.heal, .int .i64 b.strong.1, .int .i64 b.strong.2, .int .i64 (eveC b c m).water.1, .int .i64 (eveC b c m).water.2, .int .i64 (eveC b c m).fat.1, .int .i64 (eveC b c m).fat.2, .int .i64 (eveC b c m).sore.1, .int .i64 (eveC b c m).sore.2, .bool (eveC b c m).milks], .int .u8 1]
    | 6 => v = .agg #[.int .i64 b.full, .int .i64 b.fed, .int .i64 b.rest.1, .int .i64 b.rest.2, .int .i64 b.heat.1, .int .i64 b.heat.2, .int .i64 b.toil.1, .int .i64 b.toil.2, .int .i64 b.burn.1, .int .i64 b.burn.2, .int .i64 b.rub.1, .int .i64 b.rub.2, .int .i64 b.milk.1, .int .i64 b.milk.2, .int .i64 b.heal, .int .i64 b.strong.1, .int .i64 b.strong.2, .int .i64 (eveC b c m).water.1, .int .i64 (eveC b c m).water.2, .int .i64 (eveC b c m).fat.1, .int .i64 (eveC b c m).fat.2, .int .i64 (eveC b c m).sore.1, .int .i64 (eveC b c m).sore.2, .bool (eveC b c m).milks]
    | 7 => v = .int .u8 1
    | 8 => NB (W1.heap.size) #[.int .i64 0, .int .i64 0, .int .i64 0, .int .i64 0, .int .i64 0, .int .i64 0, .int .i64 0, .int .i64 0, .int .i64 0, .int .i64 0, .int .i64 0, .int .i64 0, .int .i64 0, .int .i64 0, .int .i64 0, .int .i64 0, .int .i64 0, .int .i64 0, .int .i64 0, .int .i64 0, .int .i64 0, .int .i64 0, .int .i64 0, .bool false] #[.int .i64 b.full, .int .i64 b.fed, .int .i64 b.rest.1, .int .i64 b.rest.2, .int .i64 b.heat.1, .int .i64 b.heat.2, .int .i64 b.toil.1, .int .i64 b.toil.2, .int .i64 b.burn.1, .int .i64 b.burn.2, .int .i64 b.rub.1, .int .i64 b.rub.2, .int .i64 b.milk.1, .int .i64 b.milk.2, .int .i64 b.heal, .int .i64 b.strong.1, .int .i64 b.strong.2, .int .i64 (eveC b c m).water.1, .int .i64 (eveC b c m).water.2, .int .i64 (eveC b c m).fat.1, .int .i64 (eveC b c m).fat.2, .int .i64 (eveC b c m).sore.1, .int .i64 (eveC b c m).sore.2, .bool (eveC b c m).milks] v W
    | 9 => SB #[.int .i64 b.full, .int .i64 b.fed, .int .i64 b.rest.1, .int .i64 b.rest.2, .int .i64 b.heat.1, .int .i64 b.heat.2, .int .i64 b.toil.1, .int .i64 b.toil.2, .int .i64 b.burn.1, .int .i64 b.burn.2, .int .i64 b.rub.1, .int .i64 b.rub.2, .int .i64 b.milk.1, .int .i64 b.milk.2, .int .i64 b.heal, .int .i64 b.strong.1, .int .i64 b.strong.2, .int .i64 (eveC b c m).water.1, .int .i64 (eveC b c m).water.2, .int .i64 (eveC b c m).fat.1, .int .i64 (eveC b c m).fat.2, .int .i64 (eveC b c m).sore.1, .int .i64 (eveC b c m).sore.2, .bool (eveC b c m).milks] v W
    | _ => True) ⟨⟨?_, ?_⟩, ⟨?_, ?_⟩, ⟨?_, ?_⟩, ⟨?_, ?_⟩, ⟨?_, ?_⟩, ⟨?_, ?_⟩, ⟨?_, ?_⟩, ⟨?_, ?_⟩, ⟨?_, ?_⟩, ⟨?_, ?_⟩, ?_⟩
  · intro g h; cases h
  · intro b' W hE hb hdep K hK
    have e3 : b'.tmps[3]?.getD undef = .pointer (some ⟨w.heap.size, 0, none⟩) := hb 3 (by decide)
    clear hdep hb
    obtain ⟨_, _, -, _⟩ := row_facts (hE.row ((rowOf_drew _ _).trans raW1) (by omega))
    obtain ⟨_, _, -, _⟩ := row_facts (hE.row ((rowOf_drew _ _).trans rbW1) (by omega))
    obtain ⟨_, _, -, _⟩ := row_facts (hE.row ((rowOf_drew _ _).trans rcW1) (by omega))
    go_wp2
    exact hK _ _ (XN.refl _) rfl
  · intro g h; cases h
  · intro b' W hE hb hdep K hK
    have e4 : b'.tmps[4]?.getD undef = .pointer (some ⟨w.heap.size + 1, 0, none⟩) := hb 4 (by decide)
    clear hdep hb
    obtain ⟨_, _, -, _⟩ := row_facts (hE.row ((rowOf_drew _ _).trans raW1) (by omega))
    obtain ⟨_, _, -, _⟩ := row_facts (hE.row ((rowOf_drew _ _).trans rbW1) (by omega))
    obtain ⟨_, _, -, _⟩ := row_facts (hE.row ((rowOf_drew _ _).trans rcW1) (by omega))
    go_wp2
    exact hK _ _ (XN.refl _) rfl
  · intro g h; cases h
  · intro b' W hE hb hdep K hK
    have e27 : b'.tmps[27]?.getD undef = .agg #[.int .i64 b.full, .int .i64 b.fed, .int .i64 b.rest.1, .int .i64 b.rest.2, .int .i64 b.heat.1, .int .i64 b.heat.2, .int .i64 b.toil.1, .int .i64 b.toil.2, .int .i64 b.burn.1, .int .i64 b.burn.2, .int .i64 b.rub.1, .int .i64 b.rub.2, .int .i64 b.milk.1, .int .i64 b.milk.2, .int .i64 b.heal, .int .i64 b.strong.1, .int .i64 b.strong.2] := pureN (hdep 0 (some 27) (by kernel_rfl) rfl)
    have e28 : b'.tmps[28]?.getD undef = .agg #[.int .i64 c.water.1, .int .i64 c.water.2, .int .i64 c.fat.1, .int .i64 c.fat.2, .int .i64 c.sore.1, .int .i64 c.sore.2, .bool c.milks] := pureN (hdep 1 (some 28) (by kernel_rfl) rfl)
    clear hdep hb
    go_wp2_with fail
    refine (atWork_any b c _).mono ?_
    rintro e W' ⟨rfl, hB⟩
    exact hK _ _ (Ext.xn hB) rfl
  · intro g h; cases h
  · intro b' W hE hb hdep K hK
    have e5 : b'.tmps[5]?.getD undef = .pointer (some ⟨w.heap.size + 1 + 1, 0, none⟩) := hb 5 (by decide)
    clear hdep hb
    obtain ⟨_, _, -, _⟩ := row_facts (hE.row ((rowOf_drew _ _).trans raW1) (by omega))
    obtain ⟨_, _, -, _⟩ := row_facts (hE.row ((rowOf_drew _ _).trans rbW1) (by omega))
    obtain ⟨_, _, -, _⟩ := row_facts (hE.row ((rowOf_drew _ _).trans rcW1) (by omega))
    go_wp2
    exact hK _ _ (XN.refl _) rfl
  · intro g h; cases h
  · intro b' W hE hb hdep K hK
    have e29 : b'.tmps[29]?.getD undef = .agg #[.int .i64 b.full, .int .i64 b.fed, .int .i64 b.rest.1, .int .i64 b.rest.2, .int .i64 b.heat.1, .int .i64 b.heat.2, .int .i64 b.toil.1, .int .i64 b.toil.2, .int .i64 b.burn.1, .int .i64 b.burn.2, .int .i64 b.rub.1, .int .i64 b.rub.2, .int .i64 b.milk.1, .int .i64 b.milk.2, .int .i64 b.heal, .int .i64 b.strong.1, .int .i64 b.strong.2, .int .i64 c.water.1, .int .i64 c.water.2, .int .i64 c.fat.1, .int .i64 c.fat.2, .int .i64 c.sore.1, .int .i64 c.sore.2, .bool c.milks] := pureN (hdep 2 (some 29) (by kernel_rfl) rfl)
    have e30 : b'.tmps[30]?.getD undef = .agg #[.int .i64 m.hours, .int .i64 m.load, .int .i64 m.heat.1, .int .i64 m.heat.2, .int .i64 m.grass.1, .int .i64 m.grass.2, .int .i64 m.drinks.1, .int .i64 m.drinks.2] := pureN (hdep 3 (some 30) (by kernel_rfl) rfl)
    clear hdep hb
    go_wp2_with fail
    refine (after_x b c m _ _ H3.out H4.out _ HB.out.1 HB.out.2 (okM_bd H2.out)).mono ?_
    rintro e W' ⟨rfl, hB⟩
    exact hK _ _ (Ext.xn hB) rfl
  · intro g h; cases h
  · intro b' W hE hb hdep K hK
    have e31 : b'.tmps[31]?.getD undef = .tuple #[.agg #[.int .i64 b.full, .int .i64 b.fed, .int .i64 b.rest.1, .int .i64 b.rest.2, .int .i64 b.heat.1, .int .i64 b.heat.2, .int .i64 b.toil.1, .int .i64 b.toil.2, .int .i64 b.burn.1, .int .i64 b.burn.2, .int .i64 b.rub.1, .int .i64 b.rub.2, .int .i64 b.milk.1, .int .i64 b.milk.2, .int .i64 b.heal, .int .i64 b.strong.1, .int .i64 b.strong.2, .int .i64 (eveC b c m).water.1, .int .i64 (eveC b c m).water.2, .int .i64 (eveC b c m).fat.1, .int .i64 (eveC b c m).fat.2, .int .i64 (eveC b c m).sore.1, .int .i64 (eveC b c m).sore.2, .bool (eveC b c m).milks], .int .u8 1] := pureN (hdep 4 (some 31) (by kernel_rfl) rfl)
    clear hdep hb
    go_wp2
    exact hK _ _ (XN.refl _) rfl
  · intro g h; cases h
  · intro b' W hE hb hdep K hK
    have e26 : b'.tmps[26]?.getD undef = .tuple #[.agg #[.int .i64 b.full, .int .i64 b.fed, .int .i64 b.rest.1, .int .i64 b.rest.2, .int .i64 b.heat.1, .int .i64 b.heat.2, .int .i64 b.toil.1, .int .i64 b.toil.2, .int .i64 b.burn.1, .int .i64 b.burn.2, .int .i64 b.rub.1, .int .i64 b.rub.2, .int .i64 b.milk.1, .int .i64 b.milk.2, .int .i64 b.heal, .int .i64 b.strong.1, .int .i64 b.strong.2, .int .i64 (eveC b c m).water.1, .int .i64 (eveC b c m).water.2, .int .i64 (eveC b c m).fat.1, .int .i64 (eveC b c m).fat.2, .int .i64 (eveC b c m).sore.1, .int .i64 (eveC b c m).sore.2, .bool (eveC b c m).milks], .int .u8 1] := pureN (hdep 5 (some 26) (by kernel_rfl) rfl)
    clear hdep hb
    go_wp2
    exact hK _ _ (XN.refl _) rfl
  · intro g h; cases h
  · intro b' W hE hb hdep K hK
    have e26 : b'.tmps[26]?.getD undef = .tuple #[.agg #[.int .i64 b.full, .int .i64 b.fed, .int .i64 b.rest.1, .int .i64 b.rest.2, .int .i64 b.heat.1, .int .i64 b.heat.2, .int .i64 b.toil.1, .int .i64 b.toil.2, .int .i64 b.burn.1, .int .i64 b.burn.2, .int .i64 b.rub.1, .int .i64 b.rub.2, .int .i64 b.milk.1, .int .i64 b.milk.2, .int .i64 b.heal, .int .i64 b.strong.1, .int .i64 b.strong.2, .int .i64 (eveC b c m).water.1, .int .i64 (eveC b c m).water.2, .int .i64 (eveC b c m).fat.1, .int .i64 (eveC b c m).fat.2, .int .i64 (eveC b c m).sore.1, .int .i64 (eveC b c m).sore.2, .bool (eveC b c m).milks], .int .u8 1] := pureN (hdep 5 (some 26) (by kernel_rfl) rfl)
    clear hdep hb
    go_wp2
    exact hK _ _ (XN.refl _) rfl
  · intro g h; cases h
  · intro b' W hE hb hdep K hK
    clear hdep hb
    go_wp2
    exact hK _ _ (Ext.xn (ext_alloc _ _)) ⟨rfl, by have := hE.size; simp at this; simp [blk]; omega, .inl (row_here0 _ _ _)⟩
  · intro g h; cases h
  · intro b' W hE hb hdep K hK
    have n11 : NB (W1.heap.size) #[.int .i64 0, .int .i64 0, .int .i64 0, .int .i64 0, .int .i64 0, .int .i64 0, .int .i64 0, .int .i64 0, .int .i64 0, .int .i64 0, .int .i64 0, .int .i64 0, .int .i64 0, .int .i64 0, .int .i64 0, .int .i64 0, .int .i64 0, .int .i64 0, .int .i64 0, .int .i64 0, .int .i64 0, .int .i64 0, .int .i64 0, .bool false] #[.int .i64 b.full, .int .i64 b.fed, .int .i64 b.rest.1, .int .i64 b.rest.2, .int .i64 b.heat.1, .int .i64 b.heat.2, .int .i64 b.toil.1, .int .i64 b.toil.2, .int .i64 b.burn.1, .int .i64 b.burn.2, .int .i64 b.rub.1, .int .i64 b.rub.2, .int .i64 b.milk.1, .int .i64 b.milk.2, .int .i64 b.heal, .int .i64 b.strong.1, .int .i64 b.strong.2, .int .i64 (eveC b c m).water.1, .int .i64 (eveC b c m).water.2, .int .i64 (eveC b c m).fat.1, .int .i64 (eveC b c m).fat.2, .int .i64 (eveC b c m).sore.1, .int .i64 (eveC b c m).sore.2, .bool (eveC b c m).milks] (b'.tmps[11]?.getD undef) W := nbR (hdep 8 (some 11) (by kernel_rfl) rfl)
    have e32 : b'.tmps[32]?.getD undef = .agg #[.int .i64 b.full, .int .i64 b.fed, .int .i64 b.rest.1, .int .i64 b.rest.2, .int .i64 b.heat.1, .int .i64 b.heat.2, .int .i64 b.toil.1, .int .i64 b.toil.2, .int .i64 b.burn.1, .int .i64 b.burn.2, .int .i64 b.rub.1, .int .i64 b.rub.2, .int .i64 b.milk.1, .int .i64 b.milk.2, .int .i64 b.heal, .int .i64 b.strong.1, .int .i64 b.strong.2, .int .i64 (eveC b c m).water.1, .int .i64 (eveC b c m).water.2, .int .i64 (eveC b c m).fat.1, .int .i64 (eveC b c m).fat.2, .int .i64 (eveC b c m).sore.1, .int .i64 (eveC b c m).sore.2, .bool (eveC b c m).milks] := pureN (hdep 6 (some 32) (by kernel_rfl) rfl)
    clear hdep hb
    exact wp_store_nb 112 11 (.tmp 32) rfl rfl n11 ((eval_tmp _ _).trans e32) (by kernel_rfl) rfl (by simp [one_int, one_bool]) (fun W' h1 h2 => hK W' h1 h2)
  intro f W hE hR
  have e27 : f 27 = .agg #[.int .i64 b.full, .int .i64 b.fed, .int .i64 b.rest.1, .int .i64 b.rest.2, .int .i64 b.heat.1, .int .i64 b.heat.2, .int .i64 b.toil.1, .int .i64 b.toil.2, .int .i64 b.burn.1, .int .i64 b.burn.2, .int .i64 b.rub.1, .int .i64 b.rub.2, .int .i64 b.milk.1, .int .i64 b.milk.2, .int .i64 b.heal, .int .i64 b.strong.1, .int .i64 b.strong.2] := pureN (hR 0 (some 27) rfl)
  have e28 : f 28 = .agg #[.int .i64 c.water.1, .int .i64 c.water.2, .int .i64 c.fat.1, .int .i64 c.fat.2, .int .i64 c.sore.1, .int .i64 c.sore.2, .bool c.milks] := pureN (hR 1 (some 28) rfl)
  have e29 : f 29 = .agg #[.int .i64 b.full, .int .i64 b.fed, .int .i64 b.rest.1, .int .i64 b.rest.2, .int .i64 b.heat.1, .int .i64 b.heat.2, .int .i64 b.toil.1, .int .i64 b.toil.2, .int .i64 b.burn.1, .int .i64 b.burn.2, .int .i64 b.rub.1, .int .i64 b.rub.2, .int .i64 b.milk.1, .int .i64 b.milk.2, .int .i64 b.heal, .int .i64 b.strong.1, .int .i64 b.strong.2, .int .i64 c.water.1, .int .i64 c.water.2, .int .i64 c.fat.1, .int .i64 c.fat.2, .int .i64 c.sore.1, .int .i64 c.sore.2, .bool c.milks] := pureN (hR 2 (some 29) rfl)
  have e30 : f 30 = .agg #[.int .i64 m.hours, .int .i64 m.load, .int .i64 m.heat.1, .int .i64 m.heat.2, .int .i64 m.grass.1, .int .i64 m.grass.2, .int .i64 m.drinks.1, .int .i64 m.drinks.2] := pureN (hR 3 (some 30) rfl)
  have e31 : f 31 = .tuple #[.agg #[.int .i64 b.full, .int .i64 b.fed, .int .i64 b.rest.1, .int .i64 b.rest.2, .int .i64 b.heat.1, .int .i64 b.heat.2, .int .i64 b.toil.1, .int .i64 b.toil.2, .int .i64 b.burn.1, .int .i64 b.burn.2, .int .i64 b.rub.1, .int .i64 b.rub.2, .int .i64 b.milk.1, .int .i64 b.milk.2, .int .i64 b.heal, .int .i64 b.strong.1, .int .i64 b.strong.2, .int .i64 (eveC b c m).water.1, .int .i64 (eveC b c m).water.2, .int .i64 (eveC b c m).fat.1, .int .i64 (eveC b c m).fat.2, .int .i64 (eveC b c m).sore.1, .int .i64 (eveC b c m).sore.2, .bool (eveC b c m).milks], .int .u8 1] := pureN (hR 4 (some 31) rfl)
  have e26 : f 26 = .tuple #[.agg #[.int .i64 b.full, .int .i64 b.fed, .int .i64 b.rest.1, .int .i64 b.rest.2, .int .i64 b.heat.1, .int .i64 b.heat.2, .int .i64 b.toil.1, .int .i64 b.toil.2, .int .i64 b.burn.1, .int .i64 b.burn.2, .int .i64 b.rub.1, .int .i64 b.rub.2, .int .i64 b.milk.1, .int .i64 b.milk.2, .int .i64 b.heal, .int .i64 b.strong.1, .int .i64 b.strong.2, .int .i64 (eveC b c m).water.1, .int .i64 (eveC b c m).water.2, .int .i64 (eveC b c m).fat.1, .int .i64 (eveC b c m).fat.2, .int .i64 (eveC b c m).sore.1, .int .i64 (eveC b c m).sore.2, .bool (eveC b c m).milks], .int .u8 1] := pureN (hR 5 (some 26) rfl)
  have e32 : f 32 = .agg #[.int .i64 b.full, .int .i64 b.fed, .int .i64 b.rest.1, .int .i64 b.rest.2, .int .i64 b.heat.1, .int .i64 b.heat.2, .int .i64 b.toil.1, .int .i64 b.toil.2, .int .i64 b.burn.1, .int .i64 b.burn.2, .int .i64 b.rub.1, .int .i64 b.rub.2, .int .i64 b.milk.1, .int .i64 b.milk.2, .int .i64 b.heal, .int .i64 b.strong.1, .int .i64 b.strong.2, .int .i64 (eveC b c m).water.1, .int .i64 (eveC b c m).water.2, .int .i64 (eveC b c m).fat.1, .int .i64 (eveC b c m).fat.2, .int .i64 (eveC b c m).sore.1, .int .i64 (eveC b c m).sore.2, .bool (eveC b c m).milks] := pureN (hR 6 (some 32) rfl)
  have e33 : f 33 = .int .u8 1 := pureN (hR 7 (some 33) rfl)
  have n11 : NB (W1.heap.size) #[.int .i64 0, .int .i64 0, .int .i64 0, .int .i64 0, .int .i64 0, .int .i64 0, .int .i64 0, .int .i64 0, .int .i64 0, .int .i64 0, .int .i64 0, .int .i64 0, .int .i64 0, .int .i64 0, .int .i64 0, .int .i64 0, .int .i64 0, .int .i64 0, .int .i64 0, .int .i64 0, .int .i64 0, .int .i64 0, .int .i64 0, .bool false] #[.int .i64 b.full, .int .i64 b.fed, .int .i64 b.rest.1, .int .i64 b.rest.2, .int .i64 b.heat.1, .int .i64 b.heat.2, .int .i64 b.toil.1, .int .i64 b.toil.2, .int .i64 b.burn.1, .int .i64 b.burn.2, .int .i64 b.rub.1, .int .i64 b.rub.2, .int .i64 b.milk.1, .int .i64 b.milk.2, .int .i64 b.heal, .int .i64 b.strong.1, .int .i64 b.strong.2, .int .i64 (eveC b c m).water.1, .int .i64 (eveC b c m).water.2, .int .i64 (eveC b c m).fat.1, .int .i64 (eveC b c m).fat.2, .int .i64 (eveC b c m).sore.1, .int .i64 (eveC b c m).sore.2, .bool (eveC b c m).milks] (f 11) W := nbR (hR 8 (some 11) rfl)
  have q11 : SB #[.int .i64 b.full, .int .i64 b.fed, .int .i64 b.rest.1, .int .i64 b.rest.2, .int .i64 b.heat.1, .int .i64 b.heat.2, .int .i64 b.toil.1, .int .i64 b.toil.2, .int .i64 b.burn.1, .int .i64 b.burn.2, .int .i64 b.rub.1, .int .i64 b.rub.2, .int .i64 b.milk.1, .int .i64 b.milk.2, .int .i64 b.heal, .int .i64 b.strong.1, .int .i64 b.strong.2, .int .i64 (eveC b c m).water.1, .int .i64 (eveC b c m).water.2, .int .i64 (eveC b c m).fat.1, .int .i64 (eveC b c m).fat.2, .int .i64 (eveC b c m).sore.1, .int .i64 (eveC b c m).sore.2, .bool (eveC b c m).milks] (f 11) W := sbR (hR 9 none rfl)
  clear hR
  obtain ⟨h, e11, hbase, rhW2⟩ : ∃ h, f 11 = .pointer (some ⟨h, 0, none⟩) ∧ W1.heap.size ≤ h ∧ rowOf W h = some #[.int .i64 b.full, .int .i64 b.fed, .int .i64 b.rest.1, .int .i64 b.rest.2, .int .i64 b.heat.1, .int .i64 b.heat.2, .int .i64 b.toil.1, .int .i64 b.toil.2, .int .i64 b.burn.1, .int .i64 b.burn.2, .int .i64 b.rub.1, .int .i64 b.rub.2, .int .i64 b.milk.1, .int .i64 b.milk.2, .int .i64 b.heal, .int .i64 b.strong.1, .int .i64 b.strong.2, .int .i64 (eveC b c m).water.1, .int .i64 (eveC b c m).water.2, .int .i64 (eveC b c m).fat.1, .int .i64 (eveC b c m).fat.2, .int .i64 (eveC b c m).sore.1, .int .i64 (eveC b c m).sore.2, .bool (eveC b c m).milks] := ⟨blk (f 11), q11.eq, n11.base, q11.row⟩
  have hW2 : Below w.heap.size w W := hE.below hW1.drew zW1 zW1
  obtain ⟨rdW2, cdW2, gdW2, zdW2⟩ := row_facts (hE.row ((rowOf_drew _ _).trans rdW1) zdW1)
  have zW2 := hW2.size
  clear hE n11 q11 raW1 caW1 gaW1 rbW1 cbW1 gbW1 rcW1 ccW1 gcW1 rdW1 cdW1 gdW1
  simp only [List.filterMap_cons, List.filterMap_nil, id, puts, Act.put, List.setIfInBounds_toArray, List.set_cons_succ, List.set_cons_zero, e27, e28, e29, e30, e31, e26, e32, e33, e11]
  go_wp2_with fail
  refine (camel_any b (eveC b c m) _).mono ?_
  rintro e W3 ⟨rfl, hB⟩
  have hW3 : Below w.heap.size w W3 := hW2.trans (Below.trans (by have := hW2.size; go_grown) (hB.mono (by have := hW2.size; simp; try omega)))
  have zW3 := hW3.size
  obtain ⟨rdW3, cdW3, gdW3, zdW3⟩ := keep_row hB (g := w.heap.size + 1 + 1 + 1) (by repeat (first | with_reducible assumption | with_reducible apply row_here0 | with_reducible apply row_here1 | with_reducible apply row_here2 | with_reducible apply row_here3 | with_reducible apply rowSkip))
  clear hB
  go_wp2
  exact bodyPost_ret (results39_3 Try.results25 rfl (stored_setRow rdW3 _).row rfl (v := .int .u8 1) rfl (v' := .int .i64 0) rfl) rfl ⟨rfl, Below_setRow hW3 (by omega) _⟩
set_option maxRecDepth 100000 in
set_option maxHeartbeats 4000000 in
theorem After_lives (b : Br) (c : Cm) (m : Mr) (w : World) (hx : chkC b c = 0) (hm : okM m = true) (h1 : aftW b c m = #[.int .i64 b.full, .int .i64 b.fed, .int .i64 b.rest.1, .int .i64 b.rest.2, .int .i64 b.heat.1, .int .i64 b.heat.2, .int .i64 b.toil.1, .int .i64 b.toil.2, .int .i64 b.burn.1, .int .i64 b.burn.2, .int .i64 b.rub.1, .int .i64 b.rub.2, .int .i64 b.milk.1, .int .i64 b.milk.2, .int .i64 b.heal, .int .i64 b.strong.1, .int .i64 b.strong.2, .int .i64 (eveC b c m).water.1, .int .i64 (eveC b c m).water.2, .int .i64 (eveC b c m).fat.1, .int .i64 (eveC b c m).fat.2, .int .i64 (eveC b c m).sore.1, .int .i64 (eveC b c m).sore.2, .bool (eveC b c m).milks]) (h2 : fateS b c m = 0) :
    Calls Try.prog 25 #[.agg #[.int .i64 b.full, .int .i64 b.fed, .int .i64 b.rest.1, .int .i64 b.rest.2, .int .i64 b.heat.1, .int .i64 b.heat.2, .int .i64 b.toil.1, .int .i64 b.toil.2, .int .i64 b.burn.1, .int .i64 b.burn.2, .int .i64 b.rub.1, .int .i64 b.rub.2, .int .i64 b.milk.1, .int .i64 b.milk.2, .int .i64 b.heal, .int .i64 b.strong.1, .int .i64 b.strong.2], .agg #[.int .i64 c.water.1, .int .i64 c.water.2, .int .i64 c.fat.1, .int .i64 c.fat.2, .int .i64 c.sore.1, .int .i64 c.sore.2, .bool c.milks], .agg #[.int .i64 m.hours, .int .i64 m.load, .int .i64 m.heat.1, .int .i64 m.heat.2, .int .i64 m.grass.1, .int .i64 m.grass.2, .int .i64 m.drinks.1, .int .i64 m.drinks.2]] w fun e w' => e = .returned (.tuple #[.agg #[.int .i64 (eveC b c m).water.1, .int .i64 (eveC b c m).water.2, .int .i64 (eveC b c m).fat.1, .int .i64 (eveC b c m).fat.2, .int .i64 (eveC b c m).sore.1, .int .i64 (eveC b c m).sore.2, .bool (eveC b c m).milks], .int .u8 0, .int .i64 0]) ∧ Below w.heap.size w w' := by
  have HB := Lib.hid (chkC_ok hx)
  have hcall := fun w => CheckCamel_any b c w
  simp only [hx] at hcall
  have HC := Lib.hid hcall
  have H2 := Lib.hid hm
  have H3 := Lib.hid h1
  have H4 := Lib.hid h2
  clear hcall hx hm h1 h2
  go_enter Try.func25, Try.ntmps25
  go_wp2_with fail
  refine (HC.out _).mono ?_
  rintro e W0 ⟨rfl, hB⟩
  have hW0 : Below w.heap.size w W0 := Below.trans (by go_grown) (hB.mono (by simp; try omega))
  have zW0 := hW0.size
  obtain ⟨raW0, caW0, gaW0, zaW0⟩ := keep_row hB (g := w.heap.size) (by repeat (first | with_reducible assumption | with_reducible apply row_here0 | with_reducible apply row_here1 | with_reducible apply row_here2 | with_reducible apply row_here3 | with_reducible apply rowSkip))
  obtain ⟨rbW0, cbW0, gbW0, zbW0⟩ := keep_row hB (g := w.heap.size + 1) (by repeat (first | with_reducible assumption | with_reducible apply row_here0 | with_reducible apply row_here1 | with_reducible apply row_here2 | with_reducible apply row_here3 | with_reducible apply rowSkip))
  obtain ⟨rcW0, ccW0, gcW0, zcW0⟩ := keep_row hB (g := w.heap.size + 1 + 1) (by repeat (first | with_reducible assumption | with_reducible apply row_here0 | with_reducible apply row_here1 | with_reducible apply row_here2 | with_reducible apply row_here3 | with_reducible apply rowSkip))
  obtain ⟨rdW0, cdW0, gdW0, zdW0⟩ := keep_row hB (g := w.heap.size + 1 + 1 + 1) (by repeat (first | with_reducible assumption | with_reducible apply row_here0 | with_reducible apply row_here1 | with_reducible apply row_here2 | with_reducible apply row_here3 | with_reducible apply rowSkip))
  clear hB
  go_wp2_with fail
  refine (checkMarch1 m _ H2.out _ _ _ (row_here0 _ _ _) (by simp)).mono ?_
  rintro e W1 ⟨rfl, hB⟩
  have hW1 : Below w.heap.size w W1 := hW0.trans (Below.trans (by have := hW0.size; go_grown) (hB.mono (by have := hW0.size; simp; try omega)))
  have zW1 := hW1.size
  obtain ⟨raW1, caW1, gaW1, zaW1⟩ := keep_row hB (g := w.heap.size) (by repeat (first | with_reducible assumption | with_reducible apply row_here0 | with_reducible apply row_here1 | with_reducible apply row_here2 | with_reducible apply row_here3 | with_reducible apply rowSkip))
  obtain ⟨rbW1, cbW1, gbW1, zbW1⟩ := keep_row hB (g := w.heap.size + 1) (by repeat (first | with_reducible assumption | with_reducible apply row_here0 | with_reducible apply row_here1 | with_reducible apply row_here2 | with_reducible apply row_here3 | with_reducible apply rowSkip))
  obtain ⟨rcW1, ccW1, gcW1, zcW1⟩ := keep_row hB (g := w.heap.size + 1 + 1) (by repeat (first | with_reducible assumption | with_reducible apply row_here0 | with_reducible apply row_here1 | with_reducible apply row_here2 | with_reducible apply row_here3 | with_reducible apply rowSkip))
  obtain ⟨rdW1, cdW1, gdW1, zdW1⟩ := keep_row hB (g := w.heap.size + 1 + 1 + 1) (by repeat (first | with_reducible assumption | with_reducible apply row_here0 | with_reducible apply row_here1 | with_reducible apply row_here2 | with_reducible apply row_here3 | with_reducible apply rowSkip))
  clear hB
  go_wp2_with fail
  clear raW0 caW0 gaW0 rbW0 cbW0 gbW0 rcW0 ccW0 gcW0 rdW0 cdW0 gdW0
  refine wp_drawy (by kernel_rfl) (XN (W1.heap.size) #[.int .i64 0, .int .i64 0, .int .i64 0, .int .i64 0, .int .i64 0, .int .i64 0, .int .i64 0, .int .i64 0, .int .i64 0, .int .i64 0, .int .i64 0, .int .i64 0, .int .i64 0, .int .i64 0, .int .i64 0, .int .i64 0, .int .i64 0, .int .i64 0, .int .i64 0, .int .i64 0, .int .i64 0, .int .i64 0, .int .i64 0, .bool false] #[.int .i64 b.full, .int .i64 b.fed, .int .i64 b.rest.1, .int .i64 b.rest.2, .int .i64 b.heat.1, .int .i64 b.heat.2, .int .i64 b.toil.1, .int .i64 b.toil.2, .int .i64 b.burn.1, .int .i64 b.burn.2, .int .i64 b.rub.1, .int .i64 b.rub.2, .int .i64 b.milk.1, .int .i64 b.milk.2, .int .i64 b.heal, .int .i64 b.strong.1, .int .i64 b.strong.2, .int .i64 (eveC b c m).water.1, .int .i64 (eveC b c m).water.2, .int .i64 (eveC b c m).fat.1, .int .i64 (eveC b c m).fat.2, .int .i64 (eveC b c m).sore.1, .int .i64 (eveC b c m).sore.2, .bool (eveC b c m).milks]) (fun j => match j with | 9 => 11 | _ => 0) XN.refl (fun _ _ _ => XN.trans) [some 27, some 28, some 29, some 30, some 31, some 26, some 32, some 33, some 11, none] (by kernel_rfl) (by kernel_rfl) (fun ix v W => match ix with
    | 0 => v = .agg #[.int .i64 b.full, .int .i64 b.fed, .int .i64 b.rest.1, .int .i64 b.rest.2, .int .i64 b.heat.1, .int .i64 b.heat.2, .int .i64 b.toil.1, .int .i64 b.toil.2, .int .i64 b.burn.1, .int .i64 b.burn.2, .int .i64 b.rub.1, .int .i64 b.rub.2, .int .i64 b.milk.1, .int .i64 b.milk.2, .int .i64 b.heal, .int .i64 b.strong.1, .int .i64 b.strong.2]
    | 1 => v = .agg #[.int .i64 c.water.1, .int .i64 c.water.2, .int .i64 c.fat.1, .int .i64 c.fat.2, .int .i64 c.sore.1, .int .i64 c.sore.2, .bool c.milks]
    | 2 => v = .agg #[.int .i64 b.full, .int .i64 b.fed, .int .i64 b.rest.1, .int .i64 b.rest.2, .int .i64 b.heat.1, .int .i64 b.heat.2, .int .i64 b.toil.1, .int .i64 b.toil.2, .int .i64 b.burn.1, .int .i64 b.burn.2, .int .i64 b.rub.1, .int .i64 b.rub.2, .int .i64 b.milk.1, .int .i64 b.milk.2, .int .i64 b.heal, .int .i64 b.strong.1, .int .i64 b.strong.2, .int .i64 c.water.1, .int .i64 c.water.2, .int .i64 c.fat.1, .int .i64 c.fat.2, .int .i64 c.sore.1, .int .i64 c.sore.2, .bool c.milks]
    | 3 => v = .agg #[.int .i64 m.hours, .int .i64 m.load, .int .i64 m.heat.1, .int .i64 m.heat.2, .int .i64 m.grass.1, .int .i64 m.grass.2, .int .i64 m.drinks.1, .int .i64 m.drinks.2]
    | 4 => v = .tuple #[.agg #[.int .i64 b.full, .int .i64 b.fed, .int .i64 b.rest.1, .int .i64 b.rest.2, .int .i64 b.heat.1, .int .i64 b.heat.2, .int .i64 b.toil.1, .int .i64 b.toil.2, .int .i64 b.burn.1, .int .i64 b.burn.2, .int .i64 b.rub.1, .int .i64 b.rub.2, .int .i64 b.milk.1, .int .i64 b.milk.2, .int .i64 b.heal, .int .i64 b.strong.1, .int .i64 b.strong.2, .int .i64 (eveC b c m).water.1, .int .i64 (eveC b c m).water.2, .int .i64 (eveC b c m).fat.1, .int .i64 (eveC b c m).fat.2, .int .i64 (eveC b c m).sore.1, .int .i64 (eveC b c m).sore.2, .bool (eveC b c m).milks], .int .u8 0]
    | 5 => v = .tuple #[.agg #[.int .i64 b.full, .int .i64 b.fed, .int .i64 b.rest.1, .int .i64 b.rest.2, .int .i64 b.heat.1, .int .i64 b.heat.2, .int .i64 b.toil.1, .int .i64 b.toil.2, .int .i64 b.burn.1, .int .i64 b.burn.2, .int .i64 b.rub.1, .int .i64 b.rub.2, .int .i64 b.milk.1, .int .i64 b.milk.2, .int .i64 b.heal, .int .i64 b.strong.1, .int .i64 b.strong.2, .int .i64 (eveC b c m).water.1, .int .i64 (eveC b c m).water.2, .int .i64 (eveC b c m).fat.1, .int .i64 (eveC b c m).fat.2, .int .i64 (eveC b c m).sore.1, .int .i64 (eveC b c m).sore.2, .bool (eveC b c m).milks], .int .u8 0]
    | 6 => v = .agg #[.int .i64 b.full, .int .i64 b.fed, .int .i64 b.rest.1, .int .i64 b.rest.2, .int .i64 b.heat.1, .int .i64 b.heat.2, .int .i64 b.toil.1, .int .i64 b.toil.2, .int .i64 b.burn.1, .int .i64 b.burn.2, .int .i64 b.rub.1, .int .i64 b.rub.2, .int .i64 b.milk.1, .int .i64 b.milk.2, .int .i64 b.heal, .int .i64 b.strong.1, .int .i64 b.strong.2, .int .i64 (eveC b c m).water.1, .int .i64 (eveC b c m).water.2, .int .i64 (eveC b c m).fat.1, .int .i64 (eveC b c m).fat.2, .int .i64 (eveC b c m).sore.1, .int .i64 (eveC b c m).sore.2, .bool (eveC b c m).milks]
    | 7 => v = .int .u8 0
    | 8 => NB (W1.heap.size) #[.int .i64 0, .int .i64 0, .int .i64 0, .int .i64 0, .int .i64 0, .int .i64 0, .int .i64 0, .int .i64 0, .int .i64 0, .int .i64 0, .int .i64 0, .int .i64 0, .int .i64 0, .int .i64 0, .int .i64 0, .int .i64 0, .int .i64 0, .int .i64 0, .int .i64 0, .int .i64 0, .int .i64 0, .int .i64 0, .int .i64 0, .bool false] #[.int .i64 b.full, .int .i64 b.fed, .int .i64 b.rest.1, .int .i64 b.rest.2, .int .i64 b.heat.1, .int .i64 b.heat.2, .int .i64 b.toil.1, .int .i64 b.toil.2, .int .i64 b.burn.1, .int .i64 b.burn.2, .int .i64 b.rub.1, .int .i64 b.rub.2, .int .i64 b.milk.1, .int .i64 b.milk.2, .int .i64 b.heal, .int .i64 b.strong.1, .int .i64 b.strong.2, .int .i64 (eveC b c m).water.1, .int .i64 (eveC b c m).water.2, .int .i64 (eveC b c m).fat.1, .int .i64 (eveC b c m).fat.2, .int .i64 (eveC b c m).sore.1, .int .i64 (eveC b c m).sore.2, .bool (eveC b c m).milks] v W
    | 9 => SB #[.int .i64 b.full, .int .i64 b.fed, .int .i64 b.rest.1, .int .i64 b.rest.2, .int .i64 b.heat.1, .int .i64 b.heat.2, .int .i64 b.toil.1, .int .i64 b.toil.2, .int .i64 b.burn.1, .int .i64 b.burn.2, .int .i64 b.rub.1, .int .i64 b.rub.2, .int .i64 b.milk.1, .int .i64 b.milk.2, .int .i64 b.heal, .int .i64 b.strong.1, .int .i64 b.strong.2, .int .i64 (eveC b c m).water.1, .int .i64 (eveC b c m).water.2, .int .i64 (eveC b c m).fat.1, .int .i64 (eveC b c m).fat.2, .int .i64 (eveC b c m).sore.1, .int .i64 (eveC b c m).sore.2, .bool (eveC b c m).milks] v W
    | _ => True) ⟨⟨?_, ?_⟩, ⟨?_, ?_⟩, ⟨?_, ?_⟩, ⟨?_, ?_⟩, ⟨?_, ?_⟩, ⟨?_, ?_⟩, ⟨?_, ?_⟩, ⟨?_, ?_⟩, ⟨?_, ?_⟩, ⟨?_, ?_⟩, ?_⟩
  · intro g h; cases h
  · intro b' W hE hb hdep K hK
    have e3 : b'.tmps[3]?.getD undef = .pointer (some ⟨w.heap.size, 0, none⟩) := hb 3 (by decide)
    clear hdep hb
    obtain ⟨_, _, -, _⟩ := row_facts (hE.row ((rowOf_drew _ _).trans raW1) (by omega))
    obtain ⟨_, _, -, _⟩ := row_facts (hE.row ((rowOf_drew _ _).trans rbW1) (by omega))
    obtain ⟨_, _, -, _⟩ := row_facts (hE.row ((rowOf_drew _ _).trans rcW1) (by omega))
    go_wp2
    exact hK _ _ (XN.refl _) rfl
  · intro g h; cases h
  · intro b' W hE hb hdep K hK
    have e4 : b'.tmps[4]?.getD undef = .pointer (some ⟨w.heap.size + 1, 0, none⟩) := hb 4 (by decide)
    clear hdep hb
    obtain ⟨_, _, -, _⟩ := row_facts (hE.row ((rowOf_drew _ _).trans raW1) (by omega))
    obtain ⟨_, _, -, _⟩ := row_facts (hE.row ((rowOf_drew _ _).trans rbW1) (by omega))
    obtain ⟨_, _, -, _⟩ := row_facts (hE.row ((rowOf_drew _ _).trans rcW1) (by omega))
    go_wp2
    exact hK _ _ (XN.refl _) rfl
  · intro g h; cases h
  · intro b' W hE hb hdep K hK
    have e27 : b'.tmps[27]?.getD undef = .agg #[.int .i64 b.full, .int .i64 b.fed, .int .i64 b.rest.1, .int .i64 b.rest.2, .int .i64 b.heat.1, .int .i64 b.heat.2, .int .i64 b.toil.1, .int .i64 b.toil.2, .int .i64 b.burn.1, .int .i64 b.burn.2, .int .i64 b.rub.1, .int .i64 b.rub.2, .int .i64 b.milk.1, .int .i64 b.milk.2, .int .i64 b.heal, .int .i64 b.strong.1, .int .i64 b.strong.2] := pureN (hdep 0 (some 27) (by kernel_rfl) rfl)
    have e28 : b'.tmps[28]?.getD undef = .agg #[.int .i64 c.water.1, .int .i64 c.water.2, .int .i64 c.fat.1, .int .i64 c.fat.2, .int .i64 c.sore.1, .int .i64 c.sore.2, .bool c.milks] := pureN (hdep 1 (some 28) (by kernel_rfl) rfl)
    clear hdep hb
    go_wp2_with fail
    refine (atWork_any b c _).mono ?_
    rintro e W' ⟨rfl, hB⟩
    exact hK _ _ (Ext.xn hB) rfl
  · intro g h; cases h
  · intro b' W hE hb hdep K hK
    have e5 : b'.tmps[5]?.getD undef = .pointer (some ⟨w.heap.size + 1 + 1, 0, none⟩) := hb 5 (by decide)
    clear hdep hb
    obtain ⟨_, _, -, _⟩ := row_facts (hE.row ((rowOf_drew _ _).trans raW1) (by omega))
    obtain ⟨_, _, -, _⟩ := row_facts (hE.row ((rowOf_drew _ _).trans rbW1) (by omega))
    obtain ⟨_, _, -, _⟩ := row_facts (hE.row ((rowOf_drew _ _).trans rcW1) (by omega))
    go_wp2
    exact hK _ _ (XN.refl _) rfl
  · intro g h; cases h
  · intro b' W hE hb hdep K hK
    have e29 : b'.tmps[29]?.getD undef = .agg #[.int .i64 b.full, .int .i64 b.fed, .int .i64 b.rest.1, .int .i64 b.rest.2, .int .i64 b.heat.1, .int .i64 b.heat.2, .int .i64 b.toil.1, .int .i64 b.toil.2, .int .i64 b.burn.1, .int .i64 b.burn.2, .int .i64 b.rub.1, .int .i64 b.rub.2, .int .i64 b.milk.1, .int .i64 b.milk.2, .int .i64 b.heal, .int .i64 b.strong.1, .int .i64 b.strong.2, .int .i64 c.water.1, .int .i64 c.water.2, .int .i64 c.fat.1, .int .i64 c.fat.2, .int .i64 c.sore.1, .int .i64 c.sore.2, .bool c.milks] := pureN (hdep 2 (some 29) (by kernel_rfl) rfl)
    have e30 : b'.tmps[30]?.getD undef = .agg #[.int .i64 m.hours, .int .i64 m.load, .int .i64 m.heat.1, .int .i64 m.heat.2, .int .i64 m.grass.1, .int .i64 m.grass.2, .int .i64 m.drinks.1, .int .i64 m.drinks.2] := pureN (hdep 3 (some 30) (by kernel_rfl) rfl)
    clear hdep hb
    go_wp2_with fail
    refine (after_x b c m _ _ H3.out H4.out _ HB.out.1 HB.out.2 (okM_bd H2.out)).mono ?_
    rintro e W' ⟨rfl, hB⟩
    exact hK _ _ (Ext.xn hB) rfl
  · intro g h; cases h
  · intro b' W hE hb hdep K hK
    have e31 : b'.tmps[31]?.getD undef = .tuple #[.agg #[.int .i64 b.full, .int .i64 b.fed, .int .i64 b.rest.1, .int .i64 b.rest.2, .int .i64 b.heat.1, .int .i64 b.heat.2, .int .i64 b.toil.1, .int .i64 b.toil.2, .int .i64 b.burn.1, .int .i64 b.burn.2, .int .i64 b.rub.1, .int .i64 b.rub.2, .int .i64 b.milk.1, .int .i64 b.milk.2, .int .i64 b.heal, .int .i64 b.strong.1, .int .i64 b.strong.2, .int .i64 (eveC b c m).water.1, .int .i64 (eveC b c m).water.2, .int .i64 (eveC b c m).fat.1, .int .i64 (eveC b c m).fat.2, .int .i64 (eveC b c m).sore.1, .int .i64 (eveC b c m).sore.2, .bool (eveC b c m).milks], .int .u8 0] := pureN (hdep 4 (some 31) (by kernel_rfl) rfl)
    clear hdep hb
    go_wp2
    exact hK _ _ (XN.refl _) rfl
  · intro g h; cases h
  · intro b' W hE hb hdep K hK
    have e26 : b'.tmps[26]?.getD undef = .tuple #[.agg #[.int .i64 b.full, .int .i64 b.fed, .int .i64 b.rest.1, .int .i64 b.rest.2, .int .i64 b.heat.1, .int .i64 b.heat.2, .int .i64 b.toil.1, .int .i64 b.toil.2, .int .i64 b.burn.1, .int .i64 b.burn.2, .int .i64 b.rub.1, .int .i64 b.rub.2, .int .i64 b.milk.1, .int .i64 b.milk.2, .int .i64 b.heal, .int .i64 b.strong.1, .int .i64 b.strong.2, .int .i64 (eveC b c m).water.1, .int .i64 (eveC b c m).water.2, .int .i64 (eveC b c m).fat.1, .int .i64 (eveC b c m).fat.2, .int .i64 (eveC b c m).sore.1, .int .i64 (eveC b c m).sore.2, .bool (eveC b c m).milks], .int .u8 0] := pureN (hdep 5 (some 26) (by kernel_rfl) rfl)
    clear hdep hb
    go_wp2
    exact hK _ _ (XN.refl _) rfl
  · intro g h; cases h
  · intro b' W hE hb hdep K hK
    have e26 : b'.tmps[26]?.getD undef = .tuple #[.agg #[.int .i64 b.full, .int .i64 b.fed, .int .i64 b.rest.1, .int .i64 b.rest.2, .int .i64 b.heat.1, .int .i64 b.heat.2, .int .i64 b.toil.1, .int .i64 b.toil.2, .int .i64 b.burn.1, .int .i64 b.burn.2, .int .i64 b.rub.1, .int .i64 b.rub.2, .int .i64 b.milk.1, .int .i64 b.milk.2, .int .i64 b.heal, .int .i64 b.strong.1, .int .i64 b.strong.2, .int .i64 (eveC b c m).water.1, .int .i64 (eveC b c m).water.2, .int .i64 (eveC b c m).fat.1, .int .i64 (eveC b c m).fat.2, .int .i64 (eveC b c m).sore.1, .int .i64 (eveC b c m).sore.2, .bool (eveC b c m).milks], .int .u8 0] := pureN (hdep 5 (some 26) (by kernel_rfl) rfl)
    clear hdep hb
    go_wp2
    exact hK _ _ (XN.refl _) rfl
  · intro g h; cases h
  · intro b' W hE hb hdep K hK
    clear hdep hb
    go_wp2
    exact hK _ _ (Ext.xn (ext_alloc _ _)) ⟨rfl, by have := hE.size; simp at this; simp [blk]; omega, .inl (row_here0 _ _ _)⟩
  · intro g h; cases h
  · intro b' W hE hb hdep K hK
    have n11 : NB (W1.heap.size) #[.int .i64 0, .int .i64 0, .int .i64 0, .int .i64 0, .int .i64 0, .int .i64 0, .int .i64 0, .int .i64 0, .int .i64 0, .int .i64 0, .int .i64 0, .int .i64 0, .int .i64 0, .int .i64 0, .int .i64 0, .int .i64 0, .int .i64 0, .int .i64 0, .int .i64 0, .int .i64 0, .int .i64 0, .int .i64 0, .int .i64 0, .bool false] #[.int .i64 b.full, .int .i64 b.fed, .int .i64 b.rest.1, .int .i64 b.rest.2, .int .i64 b.heat.1, .int .i64 b.heat.2, .int .i64 b.toil.1, .int .i64 b.toil.2, .int .i64 b.burn.1, .int .i64 b.burn.2, .int .i64 b.rub.1, .int .i64 b.rub.2, .int .i64 b.milk.1, .int .i64 b.milk.2, .int .i64 b.heal, .int .i64 b.strong.1, .int .i64 b.strong.2, .int .i64 (eveC b c m).water.1, .int .i64 (eveC b c m).water.2, .int .i64 (eveC b c m).fat.1, .int .i64 (eveC b c m).fat.2, .int .i64 (eveC b c m).sore.1, .int .i64 (eveC b c m).sore.2, .bool (eveC b c m).milks] (b'.tmps[11]?.getD undef) W := nbR (hdep 8 (some 11) (by kernel_rfl) rfl)
    have e32 : b'.tmps[32]?.getD undef = .agg #[.int .i64 b.full, .int .i64 b.fed, .int .i64 b.rest.1, .int .i64 b.rest.2, .int .i64 b.heat.1, .int .i64 b.heat.2, .int .i64 b.toil.1, .int .i64 b.toil.2, .int .i64 b.burn.1, .int .i64 b.burn.2, .int .i64 b.rub.1, .int .i64 b.rub.2, .int .i64 b.milk.1, .int .i64 b.milk.2, .int .i64 b.heal, .int .i64 b.strong.1, .int .i64 b.strong.2, .int .i64 (eveC b c m).water.1, .int .i64 (eveC b c m).water.2, .int .i64 (eveC b c m).fat.1, .int .i64 (eveC b c m).fat.2, .int .i64 (eveC b c m).sore.1, .int .i64 (eveC b c m).sore.2, .bool (eveC b c m).milks] := pureN (hdep 6 (some 32) (by kernel_rfl) rfl)
    clear hdep hb
    exact wp_store_nb 112 11 (.tmp 32) rfl rfl n11 ((eval_tmp _ _).trans e32) (by kernel_rfl) rfl (by simp [one_int, one_bool]) (fun W' h1 h2 => hK W' h1 h2)
  intro f W hE hR
  have e27 : f 27 = .agg #[.int .i64 b.full, .int .i64 b.fed, .int .i64 b.rest.1, .int .i64 b.rest.2, .int .i64 b.heat.1, .int .i64 b.heat.2, .int .i64 b.toil.1, .int .i64 b.toil.2, .int .i64 b.burn.1, .int .i64 b.burn.2, .int .i64 b.rub.1, .int .i64 b.rub.2, .int .i64 b.milk.1, .int .i64 b.milk.2, .int .i64 b.heal, .int .i64 b.strong.1, .int .i64 b.strong.2] := pureN (hR 0 (some 27) rfl)
  have e28 : f 28 = .agg #[.int .i64 c.water.1, .int .i64 c.water.2, .int .i64 c.fat.1, .int .i64 c.fat.2, .int .i64 c.sore.1, .int .i64 c.sore.2, .bool c.milks] := pureN (hR 1 (some 28) rfl)
  have e29 : f 29 = .agg #[.int .i64 b.full, .int .i64 b.fed, .int .i64 b.rest.1, .int .i64 b.rest.2, .int .i64 b.heat.1, .int .i64 b.heat.2, .int .i64 b.toil.1, .int .i64 b.toil.2, .int .i64 b.burn.1, .int .i64 b.burn.2, .int .i64 b.rub.1, .int .i64 b.rub.2, .int .i64 b.milk.1, .int .i64 b.milk.2, .int .i64 b.heal, .int .i64 b.strong.1, .int .i64 b.strong.2, .int .i64 c.water.1, .int .i64 c.water.2, .int .i64 c.fat.1, .int .i64 c.fat.2, .int .i64 c.sore.1, .int .i64 c.sore.2, .bool c.milks] := pureN (hR 2 (some 29) rfl)
  have e30 : f 30 = .agg #[.int .i64 m.hours, .int .i64 m.load, .int .i64 m.heat.1, .int .i64 m.heat.2, .int .i64 m.grass.1, .int .i64 m.grass.2, .int .i64 m.drinks.1, .int .i64 m.drinks.2] := pureN (hR 3 (some 30) rfl)
  have e31 : f 31 = .tuple #[.agg #[.int .i64 b.full, .int .i64 b.fed, .int .i64 b.rest.1, .int .i64 b.rest.2, .int .i64 b.heat.1, .int .i64 b.heat.2, .int .i64 b.toil.1, .int .i64 b.toil.2, .int .i64 b.burn.1, .int .i64 b.burn.2, .int .i64 b.rub.1, .int .i64 b.rub.2, .int .i64 b.milk.1, .int .i64 b.milk.2, .int .i64 b.heal, .int .i64 b.strong.1, .int .i64 b.strong.2, .int .i64 (eveC b c m).water.1, .int .i64 (eveC b c m).water.2, .int .i64 (eveC b c m).fat.1, .int .i64 (eveC b c m).fat.2, .int .i64 (eveC b c m).sore.1, .int .i64 (eveC b c m).sore.2, .bool (eveC b c m).milks], .int .u8 0] := pureN (hR 4 (some 31) rfl)
  have e26 : f 26 = .tuple #[.agg #[.int .i64 b.full, .int .i64 b.fed, .int .i64 b.rest.1, .int .i64 b.rest.2, .int .i64 b.heat.1, .int .i64 b.heat.2, .int .i64 b.toil.1, .int .i64 b.toil.2, .int .i64 b.burn.1, .int .i64 b.burn.2, .int .i64 b.rub.1, .int .i64 b.rub.2, .int .i64 b.milk.1, .int .i64 b.milk.2, .int .i64 b.heal, .int .i64 b.strong.1, .int .i64 b.strong.2, .int .i64 (eveC b c m).water.1, .int .i64 (eveC b c m).water.2, .int .i64 (eveC b c m).fat.1, .int .i64 (eveC b c m).fat.2, .int .i64 (eveC b c m).sore.1, .int .i64 (eveC b c m).sore.2, .bool (eveC b c m).milks], .int .u8 0] := pureN (hR 5 (some 26) rfl)
  have e32 : f 32 = .agg #[.int .i64 b.full, .int .i64 b.fed, .int .i64 b.rest.1, .int .i64 b.rest.2, .int .i64 b.heat.1, .int .i64 b.heat.2, .int .i64 b.toil.1, .int .i64 b.toil.2, .int .i64 b.burn.1, .int .i64 b.burn.2, .int .i64 b.rub.1, .int .i64 b.rub.2, .int .i64 b.milk.1, .int .i64 b.milk.2, .int .i64 b.heal, .int .i64 b.strong.1, .int .i64 b.strong.2, .int .i64 (eveC b c m).water.1, .int .i64 (eveC b c m).water.2, .int .i64 (eveC b c m).fat.1, .int .i64 (eveC b c m).fat.2, .int .i64 (eveC b c m).sore.1, .int .i64 (eveC b c m).sore.2, .bool (eveC b c m).milks] := pureN (hR 6 (some 32) rfl)
  have e33 : f 33 = .int .u8 0 := pureN (hR 7 (some 33) rfl)
  have n11 : NB (W1.heap.size) #[.int .i64 0, .int .i64 0, .int .i64 0, .int .i64 0, .int .i64 0, .int .i64 0, .int .i64 0, .int .i64 0, .int .i64 0, .int .i64 0, .int .i64 0, .int .i64 0, .int .i64 0, .int .i64 0, .int .i64 0, .int .i64 0, .int .i64 0, .int .i64 0, .int .i64 0, .int .i64 0, .int .i64 0, .int .i64 0, .int .i64 0, .bool false] #[.int .i64 b.full, .int .i64 b.fed, .int .i64 b.rest.1, .int .i64 b.rest.2, .int .i64 b.heat.1, .int .i64 b.heat.2, .int .i64 b.toil.1, .int .i64 b.toil.2, .int .i64 b.burn.1, .int .i64 b.burn.2, .int .i64 b.rub.1, .int .i64 b.rub.2, .int .i64 b.milk.1, .int .i64 b.milk.2, .int .i64 b.heal, .int .i64 b.strong.1, .int .i64 b.strong.2, .int .i64 (eveC b c m).water.1, .int .i64 (eveC b c m).water.2, .int .i64 (eveC b c m).fat.1, .int .i64 (eveC b c m).fat.2, .int .i64 (eveC b c m).sore.1, .int .i64 (eveC b c m).sore.2, .bool (eveC b c m).milks] (f 11) W := nbR (hR 8 (some 11) rfl)
  have q11 : SB #[.int .i64 b.full, .int .i64 b.fed, .int .i64 b.rest.1, .int .i64 b.rest.2, .int .i64 b.heat.1, .int .i64 b.heat.2, .int .i64 b.toil.1, .int .i64 b.toil.2, .int .i64 b.burn.1, .int .i64 b.burn.2, .int .i64 b.rub.1, .int .i64 b.rub.2, .int .i64 b.milk.1, .int .i64 b.milk.2, .int .i64 b.heal, .int .i64 b.strong.1, .int .i64 b.strong.2, .int .i64 (eveC b c m).water.1, .int .i64 (eveC b c m).water.2, .int .i64 (eveC b c m).fat.1, .int .i64 (eveC b c m).fat.2, .int .i64 (eveC b c m).sore.1, .int .i64 (eveC b c m).sore.2, .bool (eveC b c m).milks] (f 11) W := sbR (hR 9 none rfl)
  clear hR
  obtain ⟨h, e11, hbase, rhW2⟩ : ∃ h, f 11 = .pointer (some ⟨h, 0, none⟩) ∧ W1.heap.size ≤ h ∧ rowOf W h = some #[.int .i64 b.full, .int .i64 b.fed, .int .i64 b.rest.1, .int .i64 b.rest.2, .int .i64 b.heat.1, .int .i64 b.heat.2, .int .i64 b.toil.1, .int .i64 b.toil.2, .int .i64 b.burn.1, .int .i64 b.burn.2, .int .i64 b.rub.1, .int .i64 b.rub.2, .int .i64 b.milk.1, .int .i64 b.milk.2, .int .i64 b.heal, .int .i64 b.strong.1, .int .i64 b.strong.2, .int .i64 (eveC b c m).water.1, .int .i64 (eveC b c m).water.2, .int .i64 (eveC b c m).fat.1, .int .i64 (eveC b c m).fat.2, .int .i64 (eveC b c m).sore.1, .int .i64 (eveC b c m).sore.2, .bool (eveC b c m).milks] := ⟨blk (f 11), q11.eq, n11.base, q11.row⟩
  have hW2 : Below w.heap.size w W := hE.below hW1.drew zW1 zW1
  obtain ⟨rdW2, cdW2, gdW2, zdW2⟩ := row_facts (hE.row ((rowOf_drew _ _).trans rdW1) zdW1)
  have zW2 := hW2.size
  clear hE n11 q11 raW1 caW1 gaW1 rbW1 cbW1 gbW1 rcW1 ccW1 gcW1 rdW1 cdW1 gdW1
  simp only [List.filterMap_cons, List.filterMap_nil, id, puts, Act.put, List.setIfInBounds_toArray, List.set_cons_succ, List.set_cons_zero, e27, e28, e29, e30, e31, e26, e32, e33, e11]
  go_wp2_with fail
  refine (camel_any b (eveC b c m) _).mono ?_
  rintro e W3 ⟨rfl, hB⟩
  have hW3 : Below w.heap.size w W3 := hW2.trans (Below.trans (by have := hW2.size; go_grown) (hB.mono (by have := hW2.size; simp; try omega)))
  have zW3 := hW3.size
  obtain ⟨rdW3, cdW3, gdW3, zdW3⟩ := keep_row hB (g := w.heap.size + 1 + 1 + 1) (by repeat (first | with_reducible assumption | with_reducible apply row_here0 | with_reducible apply row_here1 | with_reducible apply row_here2 | with_reducible apply row_here3 | with_reducible apply rowSkip))
  clear hB
  go_wp2
  exact bodyPost_ret (results39_3 Try.results25 rfl (stored_setRow rdW3 _).row rfl (v := .int .u8 0) rfl (v' := .int .i64 0) rfl) rfl ⟨rfl, Below_setRow hW3 (by omega) _⟩

theorem After_any (b : Br) (c : Cm) (m : Mr) (w : World) :
    Calls Try.prog 25 #[.agg #[.int .i64 b.full, .int .i64 b.fed, .int .i64 b.rest.1, .int .i64 b.rest.2, .int .i64 b.heat.1, .int .i64 b.heat.2, .int .i64 b.toil.1, .int .i64 b.toil.2, .int .i64 b.burn.1, .int .i64 b.burn.2, .int .i64 b.rub.1, .int .i64 b.rub.2, .int .i64 b.milk.1, .int .i64 b.milk.2, .int .i64 b.heal, .int .i64 b.strong.1, .int .i64 b.strong.2], .agg #[.int .i64 c.water.1, .int .i64 c.water.2, .int .i64 c.fat.1, .int .i64 c.fat.2, .int .i64 c.sore.1, .int .i64 c.sore.2, .bool c.milks], .agg #[.int .i64 m.hours, .int .i64 m.load, .int .i64 m.heat.1, .int .i64 m.heat.2, .int .i64 m.grass.1, .int .i64 m.grass.2, .int .i64 m.drinks.1, .int .i64 m.drinks.2]] w fun e w' => e = .returned (.tuple #[.agg #[.int .i64 (aftC b c m).water.1, .int .i64 (aftC b c m).water.2, .int .i64 (aftC b c m).fat.1, .int .i64 (aftC b c m).fat.2, .int .i64 (aftC b c m).sore.1, .int .i64 (aftC b c m).sore.2, .bool (aftC b c m).milks], .int .u8 (aftF b c m), .int .i64 (chkA b c m)]) ∧ Below w.heap.size w w' := by
  by_cases h0 : chkC b c = 0
  · cases hm : okM m with
    | false =>
      have h : chkA b c m = 12 := by simp [chkA, h0, hm]
      have h1 : aftC b c m = zc false := by simp [aftC, h]
      have h2 : aftF b c m = 0 := by simp [aftF, h]
      rw [h, h1, h2]
      exact After_march b c m w h0 hm
    | true =>
      cases hd : diesS b c m with
      | true =>
        have h : chkA b c m = 13 := by simp [chkA, h0, hm, hd]
        have h1 : aftC b c m = zc false := by simp [aftC, h]
        have h2 : aftF b c m = 0 := by simp [aftF, h]
        rw [h, h1, h2]
        exact After_dies b c m w h0 hm (aftW_dies hd).1 (aftW_dies hd).2
      | false =>
        have h : chkA b c m = 0 := by simp [chkA, h0, hm, hd]
        have h1 : aftC b c m = eveC b c m := by simp [aftC, h]
        cases ho : openS b c m with
        | true =>
          have h2 : aftF b c m = 1 := by simp [aftF, h, ho]
          rw [h, h1, h2]
          exact After_open b c m w h0 hm (aftW_lives hd).1 (by rw [(aftW_lives hd).2]; simp [ho])
        | false =>
          have h2 : aftF b c m = 0 := by simp [aftF, h, ho]
          rw [h, h1, h2]
          exact After_lives b c m w h0 hm (aftW_lives hd).1 (by rw [(aftW_lives hd).2]; simp [ho])
  · have h : chkA b c m = chkC b c := by simp [chkA, h0]
    have h1 : aftC b c m = zc false := by simp [aftC, h, h0]
    have h2 : aftF b c m = 0 := by simp [aftF, h, h0]
    rw [h, h1, h2]
    exact After_bad b c m _ w rfl h0
end Go.Proofs.Ytafdcbdbllpcnaa
