/- Contract of package camel's Cost: what it returns, for every breed and day. -/
import Derived.Test.YtafdcbdbllpcnaaLeafF
import Derived.Test.YtafdcbdbllpcnaaLeafH
import Derived.Test.YtafdcbdbllpcnaaDraws
namespace Go.Proofs.Ytafdcbdbllpcnaa
open Go.RowKit
open Go.Proofs

attribute [local go_sem ↓] exec36l exec112l exec36s exec112s exec31s run_min2 run_max2
attribute [local go_sem] load36 load112 store36 store112 store31 build112 rowOf_alloc rowOf_drew setRow_alloc one_int one_bool run_min4

theorem marches1 {w : World} {g : Nat} {m : Mr} (h : rowOf w g = some #[.int .i64 m.hours, .int .i64 m.load, .int .i64 m.heat.1, .int .i64 m.heat.2, .int .i64 m.grass.1, .int .i64 m.grass.2, .int .i64 m.drinks.1, .int .i64 m.drinks.2]) : MarchesAt w g 0 [m] := by
  obtain ⟨c, -, -⟩ := cell_of_rowOf h
  intro k hk
  obtain rfl : k = 0 := by simp at hk; omega
  exact ⟨c 0, c 1, c 2, c 3, c 4, c 5, c 6, c 7⟩
theorem checkMarch1 (m : Mr) (x : Bool) (hx : okM m = x) (w : World) (g cap : Nat) (h : rowOf w g = some #[.int .i64 m.hours, .int .i64 m.load, .int .i64 m.heat.1, .int .i64 m.heat.2, .int .i64 m.grass.1, .int .i64 m.grass.2, .int .i64 m.drinks.1, .int .i64 m.drinks.2]) (hb : g < w.heap.size) :
    Calls Try.prog 63 #[.slice (some ⟨g, 0, none⟩) 1 cap] w fun e w' => e = .returned (.int .i64 (if x = true then 0 else 12)) ∧ Below w.heap.size w w' := by
  subst hx
  have := checkMarches_any g 0 cap [m] w (marches1 h) hb (by simp)
  simpa using this
theorem CheckBreed_x (b : Br) (x : Bool) (hx : okB b = x) (w : World) :
    Calls Try.prog 31 #[.agg #[.int .i64 b.full, .int .i64 b.fed, .int .i64 b.rest.1, .int .i64 b.rest.2, .int .i64 b.heat.1, .int .i64 b.heat.2, .int .i64 b.toil.1, .int .i64 b.toil.2, .int .i64 b.burn.1, .int .i64 b.burn.2, .int .i64 b.rub.1, .int .i64 b.rub.2, .int .i64 b.milk.1, .int .i64 b.milk.2, .int .i64 b.heal, .int .i64 b.strong.1, .int .i64 b.strong.2]] w fun e w' => e = .returned (.int .i64 (if x = true then 0 else 10)) ∧ Below w.heap.size w w' := by
  subst hx; exact CheckBreed_any b w

theorem Cost_bad (b : Br) (k : Bool) (m : Mr) (w : World) (hb : okB b = false) :
    Calls Try.prog 24 #[.agg #[.int .i64 b.full, .int .i64 b.fed, .int .i64 b.rest.1, .int .i64 b.rest.2, .int .i64 b.heat.1, .int .i64 b.heat.2, .int .i64 b.toil.1, .int .i64 b.toil.2, .int .i64 b.burn.1, .int .i64 b.burn.2, .int .i64 b.rub.1, .int .i64 b.rub.2, .int .i64 b.milk.1, .int .i64 b.milk.2, .int .i64 b.heal, .int .i64 b.strong.1, .int .i64 b.strong.2], .bool k, .agg #[.int .i64 m.hours, .int .i64 m.load, .int .i64 m.heat.1, .int .i64 m.heat.2, .int .i64 m.grass.1, .int .i64 m.grass.2, .int .i64 m.drinks.1, .int .i64 m.drinks.2]] w fun e w' => e = .returned (.tuple #[.agg #[.int .i64 0, .int .i64 0], .agg #[.int .i64 0, .int .i64 0], .int .i64 10]) ∧ Below w.heap.size w w' := by
  have H := Lib.hid hb
  clear hb
  go_enter Try.func24, Try.ntmps24
  go_wp2_with fail
  refine (CheckBreed_x b _ H.out _).mono ?_
  rintro e W1 ⟨rfl, hB⟩
  have hW1 : Below w.heap.size w W1 := Below.trans (by go_grown) (hB.mono (by simp; try omega))
  have zW1 := hW1.size
  obtain ⟨raW1, caW1, gaW1, zaW1⟩ := keep_row hB (g := w.heap.size) (by repeat (first | with_reducible assumption | with_reducible apply row_here0 | with_reducible apply row_here1 | with_reducible apply row_here2 | with_reducible apply row_here3 | with_reducible apply rowSkip))
  obtain ⟨rcW1, ccW1, gcW1, zcW1⟩ := keep_row hB (g := w.heap.size + 1 + 1) (by repeat (first | with_reducible assumption | with_reducible apply row_here0 | with_reducible apply row_here1 | with_reducible apply row_here2 | with_reducible apply row_here3 | with_reducible apply rowSkip))
  obtain ⟨rdW1, cdW1, gdW1, zdW1⟩ := keep_row hB (g := w.heap.size + 1 + 1 + 1) (by repeat (first | with_reducible assumption | with_reducible apply row_here0 | with_reducible apply row_here1 | with_reducible apply row_here2 | with_reducible apply row_here3 | with_reducible apply rowSkip))
  clear hB
  have hq := fun vs g => rowOf_setRow rcW1 vs g
  go_wp2
  exact bodyPost_ret (results_rows3 Try.results24 Try.underlying31 rfl Try.underlying31 rfl rfl rfl (g := w.heap.size + 1 + 1) (g' := w.heap.size + 1 + 1 + 1) (cs := #[.int .i64 0, .int .i64 0]) (cs' := #[.int .i64 0, .int .i64 0]) (by rw [(stored_setRow (hq _ _ |>.trans (if_neg (by simp)) |>.trans rdW1) _).other _ (by simp), hq, if_pos rfl]) (stored_setRow (hq _ _ |>.trans (if_neg (by simp)) |>.trans rdW1) _).row (by kernel_rfl) (by kernel_rfl) (v := .int .i64 10) rfl) rfl ⟨rfl, Below_setRow (Below_setRow hW1 (by omega) _) (by omega) _⟩

theorem Cost_march (b : Br) (k : Bool) (m : Mr) (w : World) (hb : okB b = true) (hm : okM m = false) :
    Calls Try.prog 24 #[.agg #[.int .i64 b.full, .int .i64 b.fed, .int .i64 b.rest.1, .int .i64 b.rest.2, .int .i64 b.heat.1, .int .i64 b.heat.2, .int .i64 b.toil.1, .int .i64 b.toil.2, .int .i64 b.burn.1, .int .i64 b.burn.2, .int .i64 b.rub.1, .int .i64 b.rub.2, .int .i64 b.milk.1, .int .i64 b.milk.2, .int .i64 b.heal, .int .i64 b.strong.1, .int .i64 b.strong.2], .bool k, .agg #[.int .i64 m.hours, .int .i64 m.load, .int .i64 m.heat.1, .int .i64 m.heat.2, .int .i64 m.grass.1, .int .i64 m.grass.2, .int .i64 m.drinks.1, .int .i64 m.drinks.2]] w fun e w' => e = .returned (.tuple #[.agg #[.int .i64 0, .int .i64 0], .agg #[.int .i64 0, .int .i64 0], .int .i64 12]) ∧ Below w.heap.size w w' := by
  have H := Lib.hid hb
  have H2 := Lib.hid hm
  clear hb hm
  go_enter Try.func24, Try.ntmps24
  go_wp2_with fail
  refine (CheckBreed_x b _ H.out _).mono ?_
  rintro e W0 ⟨rfl, hB⟩
  have hW0 : Below w.heap.size w W0 := Below.trans (by go_grown) (hB.mono (by simp; try omega))
  have zW0 := hW0.size
  obtain ⟨raW0, caW0, gaW0, zaW0⟩ := keep_row hB (g := w.heap.size) (by repeat (first | with_reducible assumption | with_reducible apply row_here0 | with_reducible apply row_here1 | with_reducible apply row_here2 | with_reducible apply row_here3 | with_reducible apply rowSkip))
  obtain ⟨rbW0, cbW0, gbW0, zbW0⟩ := keep_row hB (g := w.heap.size + 1) (by repeat (first | with_reducible assumption | with_reducible apply row_here0 | with_reducible apply row_here1 | with_reducible apply row_here2 | with_reducible apply row_here3 | with_reducible apply rowSkip))
  obtain ⟨rcW0, ccW0, gcW0, zcW0⟩ := keep_row hB (g := w.heap.size + 1 + 1) (by repeat (first | with_reducible assumption | with_reducible apply row_here0 | with_reducible apply row_here1 | with_reducible apply row_here2 | with_reducible apply row_here3 | with_reducible apply rowSkip))
  obtain ⟨rdW0, cdW0, gdW0, zdW0⟩ := keep_row hB (g := w.heap.size + 1 + 1 + 1) (by repeat (first | with_reducible assumption | with_reducible apply row_here0 | with_reducible apply row_here1 | with_reducible apply row_here2 | with_reducible apply row_here3 | with_reducible apply rowSkip))
  clear hB
  go_wp2_with fail
  refine (checkMarch1 m _ H2.out _ _ _ (row_here0 _ _ _) (by simp)).mono ?_
  rintro e W1 ⟨rfl, hB⟩
  have hW1 : Below w.heap.size w W1 := hW0.trans (Below.trans (by have := hW0.size; go_grown) (hB.mono (by have := hW0.size; simp; try omega)))
  have zW1 := hW1.size
  obtain ⟨rcW1, ccW1, gcW1, zcW1⟩ := keep_row hB (g := w.heap.size + 1 + 1) (by repeat (first | with_reducible assumption | with_reducible apply row_here0 | with_reducible apply row_here1 | with_reducible apply row_here2 | with_reducible apply row_here3 | with_reducible apply rowSkip))
  obtain ⟨rdW1, cdW1, gdW1, zdW1⟩ := keep_row hB (g := w.heap.size + 1 + 1 + 1) (by repeat (first | with_reducible assumption | with_reducible apply row_here0 | with_reducible apply row_here1 | with_reducible apply row_here2 | with_reducible apply row_here3 | with_reducible apply rowSkip))
  clear hB
  have hq := fun vs g => rowOf_setRow rcW1 vs g
  go_wp2
  exact bodyPost_ret (results_rows3 Try.results24 Try.underlying31 rfl Try.underlying31 rfl rfl rfl (g := w.heap.size + 1 + 1) (g' := w.heap.size + 1 + 1 + 1) (cs := #[.int .i64 0, .int .i64 0]) (cs' := #[.int .i64 0, .int .i64 0]) (by rw [(stored_setRow (hq _ _ |>.trans (if_neg (by simp)) |>.trans rdW1) _).other _ (by simp), hq, if_pos rfl]) (stored_setRow (hq _ _ |>.trans (if_neg (by simp)) |>.trans rdW1) _).row (by kernel_rfl) (by kernel_rfl) (v := .int .i64 12) rfl) rfl ⟨rfl, Below_setRow (Below_setRow hW1 (by omega) _) (by omega) _⟩

set_option maxHeartbeats 4000000 in
theorem Cost_ok (b : Br) (k : Bool) (m : Mr) (w : World) (hb : okB b = true) (hm : okM m = true) :
    Calls Try.prog 24 #[.agg #[.int .i64 b.full, .int .i64 b.fed, .int .i64 b.rest.1, .int .i64 b.rest.2, .int .i64 b.heat.1, .int .i64 b.heat.2, .int .i64 b.toil.1, .int .i64 b.toil.2, .int .i64 b.burn.1, .int .i64 b.burn.2, .int .i64 b.rub.1, .int .i64 b.rub.2, .int .i64 b.milk.1, .int .i64 b.milk.2, .int .i64 b.heal, .int .i64 b.strong.1, .int .i64 b.strong.2], .bool k, .agg #[.int .i64 m.hours, .int .i64 m.load, .int .i64 m.heat.1, .int .i64 m.heat.2, .int .i64 m.grass.1, .int .i64 m.grass.2, .int .i64 m.drinks.1, .int .i64 m.drinks.2]] w fun e w' => e = .returned (.tuple #[.agg #[.int .i64 (waS b k m).1, .int .i64 (waS b k m).2], .agg #[.int .i64 (faS b m).1, .int .i64 (faS b m).2], .int .i64 0]) ∧ Below w.heap.size w w' := by
  have H := Lib.hid hb
  have H2 := Lib.hid hm
  clear hb hm
  go_enter Try.func24, Try.ntmps24
  go_wp2_with fail
  refine (CheckBreed_x b _ H.out _).mono ?_
  rintro e W0 ⟨rfl, hB⟩
  have hW0 : Below w.heap.size w W0 := Below.trans (by go_grown) (hB.mono (by simp; try omega))
  have zW0 := hW0.size
  obtain ⟨raW0, caW0, gaW0, zaW0⟩ := keep_row hB (g := w.heap.size) (by repeat (first | with_reducible assumption | with_reducible apply row_here0 | with_reducible apply row_here1 | with_reducible apply row_here2 | with_reducible apply row_here3 | with_reducible apply rowSkip))
  obtain ⟨rbW0, cbW0, gbW0, zbW0⟩ := keep_row hB (g := w.heap.size + 1) (by repeat (first | with_reducible assumption | with_reducible apply row_here0 | with_reducible apply row_here1 | with_reducible apply row_here2 | with_reducible apply row_here3 | with_reducible apply rowSkip))
  obtain ⟨rcW0, ccW0, gcW0, zcW0⟩ := keep_row hB (g := w.heap.size + 1 + 1) (by repeat (first | with_reducible assumption | with_reducible apply row_here0 | with_reducible apply row_here1 | with_reducible apply row_here2 | with_reducible apply row_here3 | with_reducible apply rowSkip))
  obtain ⟨rdW0, cdW0, gdW0, zdW0⟩ := keep_row hB (g := w.heap.size + 1 + 1 + 1) (by repeat (first | with_reducible assumption | with_reducible apply row_here0 | with_reducible apply row_here1 | with_reducible apply row_here2 | with_reducible apply row_here3 | with_reducible apply rowSkip))
  clear hB
  go_wp2_with fail
  refine (checkMarch1 m _ H2.out _ _ _ (row_here0 _ _ _) (by simp)).mono ?_
  rintro e W1 ⟨rfl, hB⟩
  have hW1 : Below w.heap.size w W1 := hW0.trans (Below.trans (by have := hW0.size; go_grown) (hB.mono (by have := hW0.size; simp; try omega)))
  have zW1 := hW1.size
  obtain ⟨raW1, caW1, gaW1, zaW1⟩ := keep_row hB (g := w.heap.size) (by repeat (first | with_reducible assumption | with_reducible apply row_here0 | with_reducible apply row_here1 | with_reducible apply row_here2 | with_reducible apply row_here3 | with_reducible apply rowSkip))
  obtain ⟨rbW1, cbW1, gbW1, zbW1⟩ := keep_row hB (g := w.heap.size + 1) (by repeat (first | with_reducible assumption | with_reducible apply row_here0 | with_reducible apply row_here1 | with_reducible apply row_here2 | with_reducible apply row_here3 | with_reducible apply rowSkip))
  obtain ⟨rcW1, ccW1, gcW1, zcW1⟩ := keep_row hB (g := w.heap.size + 1 + 1) (by repeat (first | with_reducible assumption | with_reducible apply row_here0 | with_reducible apply row_here1 | with_reducible apply row_here2 | with_reducible apply row_here3 | with_reducible apply rowSkip))
  obtain ⟨rdW1, cdW1, gdW1, zdW1⟩ := keep_row hB (g := w.heap.size + 1 + 1 + 1) (by repeat (first | with_reducible assumption | with_reducible apply row_here0 | with_reducible apply row_here1 | with_reducible apply row_here2 | with_reducible apply row_here3 | with_reducible apply rowSkip))
  clear hB
  go_wp2_with fail
  clear raW0 caW0 gaW0 rbW0 cbW0 gbW0 rcW0 ccW0 gcW0 rdW0 cdW0 gdW0
  refine wp_drawn_list (by kernel_rfl) [27, 28, 29, 30, 31, 32, 11] (by kernel_rfl) rfl (fun ix v W => match ix with
    | 0 => v = .agg #[.int .i64 b.full, .int .i64 b.fed, .int .i64 b.rest.1, .int .i64 b.rest.2, .int .i64 b.heat.1, .int .i64 b.heat.2, .int .i64 b.toil.1, .int .i64 b.toil.2, .int .i64 b.burn.1, .int .i64 b.burn.2, .int .i64 b.rub.1, .int .i64 b.rub.2, .int .i64 b.milk.1, .int .i64 b.milk.2, .int .i64 b.heal, .int .i64 b.strong.1, .int .i64 b.strong.2]
    | 1 => v = .bool k
    | 2 => v = .agg #[.int .i64 (zc k).water.1, .int .i64 (zc k).water.2, .int .i64 (zc k).fat.1, .int .i64 (zc k).fat.2, .int .i64 (zc k).sore.1, .int .i64 (zc k).sore.2, .bool (zc k).milks]
    | 3 => v = .agg #[.int .i64 b.full, .int .i64 b.fed, .int .i64 b.rest.1, .int .i64 b.rest.2, .int .i64 b.heat.1, .int .i64 b.heat.2, .int .i64 b.toil.1, .int .i64 b.toil.2, .int .i64 b.burn.1, .int .i64 b.burn.2, .int .i64 b.rub.1, .int .i64 b.rub.2, .int .i64 b.milk.1, .int .i64 b.milk.2, .int .i64 b.heal, .int .i64 b.strong.1, .int .i64 b.strong.2, .int .i64 (zc k).water.1, .int .i64 (zc k).water.2, .int .i64 (zc k).fat.1, .int .i64 (zc k).fat.2, .int .i64 (zc k).sore.1, .int .i64 (zc k).sore.2, .bool (zc k).milks]
    | 4 => v = .agg #[.int .i64 m.hours, .int .i64 m.load, .int .i64 m.heat.1, .int .i64 m.heat.2, .int .i64 m.grass.1, .int .i64 m.grass.2, .int .i64 m.drinks.1, .int .i64 m.drinks.2]
    | 5 => v = .agg #[.int .i64 (waS b k m).1, .int .i64 (waS b k m).2, .int .i64 (faS b m).1, .int .i64 (faS b m).2, .int .i64 (soS b m).1, .int .i64 (soS b m).2]
    | 6 => PT v #[.int .i64 0, .int .i64 0, .int .i64 0, .int .i64 0, .int .i64 0, .int .i64 0] (W1.heap.size) W
    | _ => True) ⟨?_, ?_, ?_, ?_, ?_, ?_, ?_, ?_⟩
  · intro b' W hE hb hdep K hK
    have e3 : b'.tmps[3]?.getD undef = .pointer (some ⟨w.heap.size, 0, none⟩) := hb 3 (by decide)
    clear hdep hb
    obtain ⟨_, _, -, _⟩ := keep_row hE ((raW1 : rowOf _ _ = _))
    obtain ⟨_, _, -, _⟩ := keep_row hE ((rbW1 : rowOf _ _ = _))
    go_wp2
    exact hK _ _ (Ext.refl _) rfl
  · intro b' W hE hb hdep K hK
    have e1 : b'.tmps[1]?.getD undef = .bool k := hb 1 (by decide)
    clear hdep hb
    go_wp2
    exact hK _ _ (Ext.refl _) rfl
  · intro b' W hE hb hdep K hK
    have e28 : b'.tmps[28]?.getD undef = .bool k := pureR (hdep 1 28 (by kernel_rfl) rfl)
    clear hdep hb
    go_wp2
    exact hK _ _ (Ext.refl _) rfl
  · intro b' W hE hb hdep K hK
    have e27 : b'.tmps[27]?.getD undef = .agg #[.int .i64 b.full, .int .i64 b.fed, .int .i64 b.rest.1, .int .i64 b.rest.2, .int .i64 b.heat.1, .int .i64 b.heat.2, .int .i64 b.toil.1, .int .i64 b.toil.2, .int .i64 b.burn.1, .int .i64 b.burn.2, .int .i64 b.rub.1, .int .i64 b.rub.2, .int .i64 b.milk.1, .int .i64 b.milk.2, .int .i64 b.heal, .int .i64 b.strong.1, .int .i64 b.strong.2] := pureR (hdep 0 27 (by kernel_rfl) rfl)
    have e29 : b'.tmps[29]?.getD undef = .agg #[.int .i64 (zc k).water.1, .int .i64 (zc k).water.2, .int .i64 (zc k).fat.1, .int .i64 (zc k).fat.2, .int .i64 (zc k).sore.1, .int .i64 (zc k).sore.2, .bool (zc k).milks] := pureR (hdep 2 29 (by kernel_rfl) rfl)
    clear hdep hb
    go_wp2_with fail
    refine (atWork_any b (zc k) _).mono ?_
    rintro e W' ⟨rfl, hB⟩
    exact hK _ _ hB rfl
  · intro b' W hE hb hdep K hK
    have e5 : b'.tmps[5]?.getD undef = .pointer (some ⟨w.heap.size + 1, 0, none⟩) := hb 5 (by decide)
    clear hdep hb
    obtain ⟨_, _, -, _⟩ := keep_row hE ((raW1 : rowOf _ _ = _))
    obtain ⟨_, _, -, _⟩ := keep_row hE ((rbW1 : rowOf _ _ = _))
    go_wp2
    exact hK _ _ (Ext.refl _) rfl
  · intro b' W hE hb hdep K hK
    have e30 : b'.tmps[30]?.getD undef = .agg #[.int .i64 b.full, .int .i64 b.fed, .int .i64 b.rest.1, .int .i64 b.rest.2, .int .i64 b.heat.1, .int .i64 b.heat.2, .int .i64 b.toil.1, .int .i64 b.toil.2, .int .i64 b.burn.1, .int .i64 b.burn.2, .int .i64 b.rub.1, .int .i64 b.rub.2, .int .i64 b.milk.1, .int .i64 b.milk.2, .int .i64 b.heal, .int .i64 b.strong.1, .int .i64 b.strong.2, .int .i64 (zc k).water.1, .int .i64 (zc k).water.2, .int .i64 (zc k).fat.1, .int .i64 (zc k).fat.2, .int .i64 (zc k).sore.1, .int .i64 (zc k).sore.2, .bool (zc k).milks] := pureR (hdep 3 30 (by kernel_rfl) rfl)
    have e31 : b'.tmps[31]?.getD undef = .agg #[.int .i64 m.hours, .int .i64 m.load, .int .i64 m.heat.1, .int .i64 m.heat.2, .int .i64 m.grass.1, .int .i64 m.grass.2, .int .i64 m.drinks.1, .int .i64 m.drinks.2] := pureR (hdep 4 31 (by kernel_rfl) rfl)
    clear hdep hb
    go_wp2_with fail
    refine (cost_any b (zc k) m _ (okB_bd H.out) (okM_bd H2.out)).mono ?_
    rintro e W' ⟨rfl, hB⟩
    exact hK _ _ hB rfl
  · intro b' W hE hb hdep K hK
    clear hdep hb
    go_wp2
    exact hK _ _ (ext_alloc _ _) ⟨rfl, row_here0 _ _ _, by have := hE.size; simp at this; simp [blk]; omega⟩
  intro f W hE hR
  have e27 : f 27 = .agg #[.int .i64 b.full, .int .i64 b.fed, .int .i64 b.rest.1, .int .i64 b.rest.2, .int .i64 b.heat.1, .int .i64 b.heat.2, .int .i64 b.toil.1, .int .i64 b.toil.2, .int .i64 b.burn.1, .int .i64 b.burn.2, .int .i64 b.rub.1, .int .i64 b.rub.2, .int .i64 b.milk.1, .int .i64 b.milk.2, .int .i64 b.heal, .int .i64 b.strong.1, .int .i64 b.strong.2] := pureR (hR 0 27 rfl)
  have e28 : f 28 = .bool k := pureR (hR 1 28 rfl)
  have e29 : f 29 = .agg #[.int .i64 (zc k).water.1, .int .i64 (zc k).water.2, .int .i64 (zc k).fat.1, .int .i64 (zc k).fat.2, .int .i64 (zc k).sore.1, .int .i64 (zc k).sore.2, .bool (zc k).milks] := pureR (hR 2 29 rfl)
  have e30 : f 30 = .agg #[.int .i64 b.full, .int .i64 b.fed, .int .i64 b.rest.1, .int .i64 b.rest.2, .int .i64 b.heat.1, .int .i64 b.heat.2, .int .i64 b.toil.1, .int .i64 b.toil.2, .int .i64 b.burn.1, .int .i64 b.burn.2, .int .i64 b.rub.1, .int .i64 b.rub.2, .int .i64 b.milk.1, .int .i64 b.milk.2, .int .i64 b.heal, .int .i64 b.strong.1, .int .i64 b.strong.2, .int .i64 (zc k).water.1, .int .i64 (zc k).water.2, .int .i64 (zc k).fat.1, .int .i64 (zc k).fat.2, .int .i64 (zc k).sore.1, .int .i64 (zc k).sore.2, .bool (zc k).milks] := pureR (hR 3 30 rfl)
  have e31 : f 31 = .agg #[.int .i64 m.hours, .int .i64 m.load, .int .i64 m.heat.1, .int .i64 m.heat.2, .int .i64 m.grass.1, .int .i64 m.grass.2, .int .i64 m.drinks.1, .int .i64 m.drinks.2] := pureR (hR 4 31 rfl)
  have e32 : f 32 = .agg #[.int .i64 (waS b k m).1, .int .i64 (waS b k m).2, .int .i64 (faS b m).1, .int .i64 (faS b m).2, .int .i64 (soS b m).1, .int .i64 (soS b m).2] := pureR (hR 5 32 rfl)
  have hp : PT (f 11) #[.int .i64 0, .int .i64 0, .int .i64 0, .int .i64 0, .int .i64 0, .int .i64 0] (W1.heap.size) W := pointR (hR 6 11 rfl)
  clear hR
  refine wpL_store_pt rfl 110 (.tmp 11) (.tmp 32) rfl (vs := #[.int .i64 (waS b k m).1, .int .i64 (waS b k m).2, .int .i64 (faS b m).1, .int .i64 (faS b m).2, .int .i64 (soS b m).1, .int .i64 (soS b m).2]) ((puts_eval (by decide) rfl).trans e32) (puts_eval (by decide) rfl) hp (by kernel_rfl) rfl (by simp [one_int, one_bool]) ?_
  intro h W2 hbase e11 hlt hS
  clear hp
  simp only [puts, Act.put, List.setIfInBounds_toArray, List.set_cons_succ, List.set_cons_zero, e27, e28, e29, e30, e31, e32, e11]
  have zE := hE.size
  simp only [World.size_alloc, World.size_drew] at zE
  obtain ⟨rcW2, ccW2, gcW2, zcW2⟩ := row_facts (hS.keeps (g := w.heap.size + 1 + 1) (by omega) (hE.row ((rowOf_drew _ _).trans (by repeat (first | with_reducible assumption | with_reducible apply row_here0 | with_reducible apply row_here1 | with_reducible apply row_here2 | with_reducible apply row_here3 | with_reducible apply rowSkip)))))
  obtain ⟨rdW2, cdW2, gdW2, zdW2⟩ := row_facts (hS.keeps (g := w.heap.size + 1 + 1 + 1) (by omega) (hE.row ((rowOf_drew _ _).trans (by repeat (first | with_reducible assumption | with_reducible apply row_here0 | with_reducible apply row_here1 | with_reducible apply row_here2 | with_reducible apply row_here3 | with_reducible apply rowSkip)))))
  obtain ⟨rhW2, chW2, ghW2, zhW2⟩ := row_facts hS.row
  have hW2 : Below w.heap.size w W2 := ((drew_ext hE).below (by have := hW1.size; go_grown) (by have := hW1.size; simp; try omega)).trans (hS.below _ (by omega))
  have zW2 := hW2.size
  clear hS hE zE
  clear raW1 caW1 gaW1 rbW1 cbW1 gbW1 rcW1 ccW1 gcW1 rdW1 cdW1 gdW1
  go_wp2_with fail
  refine wp_draws (by kernel_rfl) [(w.heap.size + 1 + 1, #[.int .i64 (waS b k m).1, .int .i64 (waS b k m).2]), (w.heap.size + 1 + 1 + 1, #[.int .i64 (faS b m).1, .int .i64 (faS b m).2])] [some 33, some 34, some 35, some 36, none, none] (by kernel_rfl) (fun ix v W => match ix with
    | 0 => v = .pointer (some ⟨h, 0, none⟩)
    | 1 => v = .agg #[.int .i64 (waS b k m).1, .int .i64 (waS b k m).2]
    | 2 => v = .pointer (some ⟨h, 2, none⟩)
    | 3 => v = .agg #[.int .i64 (faS b m).1, .int .i64 (faS b m).2]
    | 4 => rowOf W (w.heap.size + 1 + 1) = some #[.int .i64 (waS b k m).1, .int .i64 (waS b k m).2]
    | 5 => rowOf W (w.heap.size + 1 + 1 + 1) = some #[.int .i64 (faS b m).1, .int .i64 (faS b m).2]
    | _ => True) ⟨⟨?_, ?_⟩, ⟨?_, ?_⟩, ⟨?_, ?_⟩, ⟨?_, ?_⟩, ⟨?_, ?_⟩, ⟨?_, ?_⟩, ?_⟩
  · intro g h; cases h
  · intro b' W hE hb hdep K hK
    have e11 : b'.tmps[11]?.getD undef = .pointer (some ⟨h, 0, none⟩) := hb 11 (by decide)
    clear hdep hb
    go_wp2
    exact hK _ _ (XT.refl _ _) rfl
  · intro g h; cases h
  · intro b' W hE hb hdep K hK
    have e33 : b'.tmps[33]?.getD undef = .pointer (some ⟨h, 0, none⟩) := pureX (hdep 0 (some 33) (by kernel_rfl) rfl)
    clear hdep hb
    obtain ⟨_, _, -, _⟩ := row_facts (hE.row ((rowOf_drew _ _).trans rhW2) (by first | (simp; done) | (simp; omega)))
    go_wp2
    exact hK _ _ (XT.refl _ _) rfl
  · intro g h; cases h
  · intro b' W hE hb hdep K hK
    have e11 : b'.tmps[11]?.getD undef = .pointer (some ⟨h, 0, none⟩) := hb 11 (by decide)
    clear hdep hb
    go_wp2
    exact hK _ _ (XT.refl _ _) rfl
  · intro g h; cases h
  · intro b' W hE hb hdep K hK
    have e35 : b'.tmps[35]?.getD undef = .pointer (some ⟨h, 2, none⟩) := pureX (hdep 2 (some 35) (by kernel_rfl) rfl)
    clear hdep hb
    obtain ⟨_, _, -, _⟩ := row_facts (hE.row ((rowOf_drew _ _).trans rhW2) (by first | (simp; done) | (simp; omega)))
    go_wp2
    exact hK _ _ (XT.refl _ _) rfl
  · intro g h; cases h
  · intro b' W hE hb hdep K hK
    have e6 : b'.tmps[6]?.getD undef = .pointer (some ⟨w.heap.size + 1 + 1, 0, none⟩) := hb 6 (by decide)
    have e34 : b'.tmps[34]?.getD undef = .agg #[.int .i64 (waS b k m).1, .int .i64 (waS b k m).2] := pureX (hdep 1 (some 34) (by kernel_rfl) rfl)
    clear hdep hb
    exact wp_store_fin 31 (.tmp 6) (.tmp 34) rfl rfl ((eval_tmp _ _).trans e6) ((eval_tmp _ _).trans e34) (hE.keep (w.heap.size + 1 + 1, #[.int .i64 (waS b k m).1, .int .i64 (waS b k m).2]) (by simp) ⟨_, (rowOf_drew _ _).trans rcW2, rfl⟩) (by kernel_rfl) (by simp [one_int, one_bool]) (by simp) (by simp <;> omega) (fun W' h1 h2 => hK W' h1 h2)
  · intro g h; cases h
  · intro b' W hE hb hdep K hK
    have e7 : b'.tmps[7]?.getD undef = .pointer (some ⟨w.heap.size + 1 + 1 + 1, 0, none⟩) := hb 7 (by decide)
    have e36 : b'.tmps[36]?.getD undef = .agg #[.int .i64 (faS b m).1, .int .i64 (faS b m).2] := pureX (hdep 3 (some 36) (by kernel_rfl) rfl)
    clear hdep hb
    exact wp_store_fin 31 (.tmp 7) (.tmp 36) rfl rfl ((eval_tmp _ _).trans e7) ((eval_tmp _ _).trans e36) (hE.keep (w.heap.size + 1 + 1 + 1, #[.int .i64 (faS b m).1, .int .i64 (faS b m).2]) (by simp) ⟨_, (rowOf_drew _ _).trans rdW2, rfl⟩) (by kernel_rfl) (by simp [one_int, one_bool]) (by simp) (by simp <;> omega) (fun W' h1 h2 => hK W' h1 h2)
  intro f W hE hR
  have e33 : f 33 = .pointer (some ⟨h, 0, none⟩) := pureX (hR 0 (some 33) rfl)
  have e34 : f 34 = .agg #[.int .i64 (waS b k m).1, .int .i64 (waS b k m).2] := pureX (hR 1 (some 34) rfl)
  have e35 : f 35 = .pointer (some ⟨h, 2, none⟩) := pureX (hR 2 (some 35) rfl)
  have e36 : f 36 = .agg #[.int .i64 (faS b m).1, .int .i64 (faS b m).2] := pureX (hR 3 (some 36) rfl)
  have l4 : rowOf W (w.heap.size + 1 + 1) = some #[.int .i64 (waS b k m).1, .int .i64 (waS b k m).2] := lastX (by simp) (hR 4 none rfl)
  have l5 : rowOf W (w.heap.size + 1 + 1 + 1) = some #[.int .i64 (faS b m).1, .int .i64 (faS b m).2] := lastX (by simp) (hR 5 none rfl)
  clear hR
  simp only [List.filterMap_cons, List.filterMap_nil, id, puts, Act.put, List.setIfInBounds_toArray, List.set_cons_succ, List.set_cons_zero, e33, e34, e35, e36]
  have hw : Below w.heap.size w W := hE.below hW2.drew zW2 (by simp <;> omega)
  clear hE
  go_wp2
  exact bodyPost_ret (results_rows3 Try.results24 Try.underlying31 rfl Try.underlying31 rfl rfl rfl l4 l5 (by kernel_rfl) (by kernel_rfl) (v := .int .i64 0) rfl) rfl ⟨rfl, hw⟩

theorem Cost_any (b : Br) (k : Bool) (m : Mr) (w : World) :
    Calls Try.prog 24 #[.agg #[.int .i64 b.full, .int .i64 b.fed, .int .i64 b.rest.1, .int .i64 b.rest.2, .int .i64 b.heat.1, .int .i64 b.heat.2, .int .i64 b.toil.1, .int .i64 b.toil.2, .int .i64 b.burn.1, .int .i64 b.burn.2, .int .i64 b.rub.1, .int .i64 b.rub.2, .int .i64 b.milk.1, .int .i64 b.milk.2, .int .i64 b.heal, .int .i64 b.strong.1, .int .i64 b.strong.2], .bool k, .agg #[.int .i64 m.hours, .int .i64 m.load, .int .i64 m.heat.1, .int .i64 m.heat.2, .int .i64 m.grass.1, .int .i64 m.grass.2, .int .i64 m.drinks.1, .int .i64 m.drinks.2]] w fun e w' => e = .returned (.tuple #[.agg #[.int .i64 (coW b k m).1, .int .i64 (coW b k m).2], .agg #[.int .i64 (coF b m).1, .int .i64 (coF b m).2], .int .i64 (chkM b m)]) ∧ Below w.heap.size w w' := by
  cases hb : okB b with
  | false =>
    have h : chkM b m = 10 := by simp [chkM, hb]
    have h1 : coW b k m = (0, 0) := by simp [coW, h]
    have h2 : coF b m = (0, 0) := by simp [coF, h]
    rw [h, h1, h2]
    exact Cost_bad b k m w hb
  | true =>
    cases hm : okM m with
    | false =>
      have h : chkM b m = 12 := by simp [chkM, hb, hm]
      have h1 : coW b k m = (0, 0) := by simp [coW, h]
      have h2 : coF b m = (0, 0) := by simp [coF, h]
      rw [h, h1, h2]
      exact Cost_march b k m w hb hm
    | true =>
      have h : chkM b m = 0 := by simp [chkM, hb, hm]
      have h1 : coW b k m = waS b k m := by simp [coW, h]
      have h2 : coF b m = faS b m := by simp [coF, h]
      rw [h, h1, h2]
      exact Cost_ok b k m w hb hm
end Go.Proofs.Ytafdcbdbllpcnaa
