/- Contract of the reference's Cost: what it returns, for every breed and day. -/
import Derived.Test.YtafdcbdbllpcnaaRefE
import Derived.Test.YtafdcbdbllpcnaaLeafI
import Derived.Test.YtafdcbdbllpcnaaRefA
import Derived.Laws.OwnMore
import Derived.Lib.SliceRun
import Derived.Shelf.GgSortFunc.RowK
set_option linter.unusedVariables false
set_option linter.unusedSimpArgs false
namespace Go.Proofs.Ytafdcbdbllpcnaa
open Go.RowKit
open Go.Proofs

attribute [local go_sem ↓] exec36l exec112l exec36s exec112s exec31s run_min2 run_max2
attribute [local go_sem] load36 load112 store36 store112 store31 build112 rowOf_alloc rowOf_drew setRow_alloc one_int one_bool run_min4

theorem rMarch_x (m : Mr) (x : Bool) (hx : okM m = x) (w : World) :
    Calls Try.prog 72 #[.agg #[.int .i64 m.hours, .int .i64 m.load, .int .i64 m.heat.1, .int .i64 m.heat.2, .int .i64 m.grass.1, .int .i64 m.grass.2, .int .i64 m.drinks.1, .int .i64 m.drinks.2]] w fun e w' => e = .returned (.bool x) ∧ Below w.heap.size w w' := by
  subst hx; exact rMarch_any m w

theorem rCost_bad (b : Br) (k : Bool) (m : Mr) (w : World) (hb : okB b = false) :
    Calls Try.prog 30 #[.agg #[.int .i64 b.full, .int .i64 b.fed, .int .i64 b.rest.1, .int .i64 b.rest.2, .int .i64 b.heat.1, .int .i64 b.heat.2, .int .i64 b.toil.1, .int .i64 b.toil.2, .int .i64 b.burn.1, .int .i64 b.burn.2, .int .i64 b.rub.1, .int .i64 b.rub.2, .int .i64 b.milk.1, .int .i64 b.milk.2, .int .i64 b.heal, .int .i64 b.strong.1, .int .i64 b.strong.2], .bool k, .agg #[.int .i64 m.hours, .int .i64 m.load, .int .i64 m.heat.1, .int .i64 m.heat.2, .int .i64 m.grass.1, .int .i64 m.grass.2, .int .i64 m.drinks.1, .int .i64 m.drinks.2]] w fun e w' => e = .returned (.tuple #[.agg #[.int .i64 0, .int .i64 0], .agg #[.int .i64 0, .int .i64 0], .int .i64 10]) ∧ Below w.heap.size w w' := by
  have H := Lib.hid hb
  clear hb
  go_enter Try.func30, Try.ntmps30
  go_wp2_with fail
  refine (rBreed_okB b _ H.out _).mono ?_
  rintro e W1 ⟨rfl, hB⟩
  have hW1 : Below w.heap.size w W1 := Below.trans (by go_grown) (hB.mono (by simp; try omega))
  have zW1 := hW1.size
  obtain ⟨raW1, caW1, gaW1, zaW1⟩ := keep_row hB (g := w.heap.size) (by repeat (first | with_reducible assumption | with_reducible apply row_here0 | with_reducible apply row_here1 | with_reducible apply row_here2 | with_reducible apply row_here3 | with_reducible apply rowSkip))
  obtain ⟨rcW1, ccW1, gcW1, zcW1⟩ := keep_row hB (g := w.heap.size + 1 + 1) (by repeat (first | with_reducible assumption | with_reducible apply row_here0 | with_reducible apply row_here1 | with_reducible apply row_here2 | with_reducible apply row_here3 | with_reducible apply rowSkip))
  obtain ⟨rdW1, cdW1, gdW1, zdW1⟩ := keep_row hB (g := w.heap.size + 1 + 1 + 1) (by repeat (first | with_reducible assumption | with_reducible apply row_here0 | with_reducible apply row_here1 | with_reducible apply row_here2 | with_reducible apply row_here3 | with_reducible apply rowSkip))
  clear hB
  have hq := fun vs g => rowOf_setRow rcW1 vs g
  go_wp2
  exact bodyPost_ret (results_rows3 Try.results30 Try.underlying31 rfl Try.underlying31 rfl rfl rfl (g := w.heap.size + 1 + 1) (g' := w.heap.size + 1 + 1 + 1) (cs := #[.int .i64 0, .int .i64 0]) (cs' := #[.int .i64 0, .int .i64 0]) (by rw [(stored_setRow (hq _ _ |>.trans (if_neg (by simp)) |>.trans rdW1) _).other _ (by simp), hq, if_pos rfl]) (stored_setRow (hq _ _ |>.trans (if_neg (by simp)) |>.trans rdW1) _).row (by kernel_rfl) (by kernel_rfl) (v := .int .i64 10) rfl) rfl ⟨rfl, Below_setRow (Below_setRow hW1 (by omega) _) (by omega) _⟩
theorem rCost_march (b : Br) (k : Bool) (m : Mr) (w : World) (hb : okB b = true) (hm : okM m = false) :
    Calls Try.prog 30 #[.agg #[.int .i64 b.full, .int .i64 b.fed, .int .i64 b.rest.1, .int .i64 b.rest.2, .int .i64 b.heat.1, .int .i64 b.heat.2, .int .i64 b.toil.1, .int .i64 b.toil.2, .int .i64 b.burn.1, .int .i64 b.burn.2, .int .i64 b.rub.1, .int .i64 b.rub.2, .int .i64 b.milk.1, .int .i64 b.milk.2, .int .i64 b.heal, .int .i64 b.strong.1, .int .i64 b.strong.2], .bool k, .agg #[.int .i64 m.hours, .int .i64 m.load, .int .i64 m.heat.1, .int .i64 m.heat.2, .int .i64 m.grass.1, .int .i64 m.grass.2, .int .i64 m.drinks.1, .int .i64 m.drinks.2]] w fun e w' => e = .returned (.tuple #[.agg #[.int .i64 0, .int .i64 0], .agg #[.int .i64 0, .int .i64 0], .int .i64 12]) ∧ Below w.heap.size w w' := by
  have H := Lib.hid hb
  have H2 := Lib.hid hm
  clear hb hm
  go_enter Try.func30, Try.ntmps30
  go_wp2_with fail
  refine (rBreed_okB b _ H.out _).mono ?_
  rintro e W0 ⟨rfl, hB⟩
  have hW0 : Below w.heap.size w W0 := Below.trans (by go_grown) (hB.mono (by simp; try omega))
  have zW0 := hW0.size
  obtain ⟨rbW0, cbW0, gbW0, zbW0⟩ := keep_row hB (g := w.heap.size + 1) (by repeat (first | with_reducible assumption | with_reducible apply row_here0 | with_reducible apply row_here1 | with_reducible apply row_here2 | with_reducible apply row_here3 | with_reducible apply rowSkip))
  obtain ⟨rcW0, ccW0, gcW0, zcW0⟩ := keep_row hB (g := w.heap.size + 1 + 1) (by repeat (first | with_reducible assumption | with_reducible apply row_here0 | with_reducible apply row_here1 | with_reducible apply row_here2 | with_reducible apply row_here3 | with_reducible apply rowSkip))
  obtain ⟨rdW0, cdW0, gdW0, zdW0⟩ := keep_row hB (g := w.heap.size + 1 + 1 + 1) (by repeat (first | with_reducible assumption | with_reducible apply row_here0 | with_reducible apply row_here1 | with_reducible apply row_here2 | with_reducible apply row_here3 | with_reducible apply rowSkip))
  clear hB
  go_wp2_with fail
  refine (rMarch_x m _ H2.out _).mono ?_
  rintro e W1 ⟨rfl, hB⟩
  have hW1 : Below w.heap.size w W1 := hW0.trans (Below.trans (by have := hW0.size; go_grown) (hB.mono (by have := hW0.size; simp; try omega)))
  have zW1 := hW1.size
  obtain ⟨rcW1, ccW1, gcW1, zcW1⟩ := keep_row hB (g := w.heap.size + 1 + 1) (by repeat (first | with_reducible assumption | with_reducible apply row_here0 | with_reducible apply row_here1 | with_reducible apply row_here2 | with_reducible apply row_here3 | with_reducible apply rowSkip))
  obtain ⟨rdW1, cdW1, gdW1, zdW1⟩ := keep_row hB (g := w.heap.size + 1 + 1 + 1) (by repeat (first | with_reducible assumption | with_reducible apply row_here0 | with_reducible apply row_here1 | with_reducible apply row_here2 | with_reducible apply row_here3 | with_reducible apply rowSkip))
  clear hB
  have hq := fun vs g => rowOf_setRow rcW1 vs g
  go_wp2
  exact bodyPost_ret (results_rows3 Try.results30 Try.underlying31 rfl Try.underlying31 rfl rfl rfl (g := w.heap.size + 1 + 1) (g' := w.heap.size + 1 + 1 + 1) (cs := #[.int .i64 0, .int .i64 0]) (cs' := #[.int .i64 0, .int .i64 0]) (by rw [(stored_setRow (hq _ _ |>.trans (if_neg (by simp)) |>.trans rdW1) _).other _ (by simp), hq, if_pos rfl]) (stored_setRow (hq _ _ |>.trans (if_neg (by simp)) |>.trans rdW1) _).row (by kernel_rfl) (by kernel_rfl) (v := .int .i64 12) rfl) rfl ⟨rfl, Below_setRow (Below_setRow hW1 (by omega) _) (by omega) _⟩
set_option maxHeartbeats 4000000 in
theorem rCost_ok (b : Br) (k : Bool) (m : Mr) (w : World) (hb : okB b = true) (hm : okM m = true) :
    Calls Try.prog 30 #[.agg #[.int .i64 b.full, .int .i64 b.fed, .int .i64 b.rest.1, .int .i64 b.rest.2, .int .i64 b.heat.1, .int .i64 b.heat.2, .int .i64 b.toil.1, .int .i64 b.toil.2, .int .i64 b.burn.1, .int .i64 b.burn.2, .int .i64 b.rub.1, .int .i64 b.rub.2, .int .i64 b.milk.1, .int .i64 b.milk.2, .int .i64 b.heal, .int .i64 b.strong.1, .int .i64 b.strong.2], .bool k, .agg #[.int .i64 m.hours, .int .i64 m.load, .int .i64 m.heat.1, .int .i64 m.heat.2, .int .i64 m.grass.1, .int .i64 m.grass.2, .int .i64 m.drinks.1, .int .i64 m.drinks.2]] w fun e w' => e = .returned (.tuple #[.agg #[.int .i64 (waS b k m).1, .int .i64 (waS b k m).2], .agg #[.int .i64 (faS b m).1, .int .i64 (faS b m).2], .int .i64 0]) ∧ Below w.heap.size w w' := by
  have H := Lib.hid hb
  have H2 := Lib.hid hm
  clear hb hm
  go_enter Try.func30, Try.ntmps30
  go_wp2_with fail
  refine (rBreed_okB b _ H.out _).mono ?_
  rintro e W0 ⟨rfl, hB⟩
  have hW0 : Below w.heap.size w W0 := Below.trans (by go_grown) (hB.mono (by simp; try omega))
  have zW0 := hW0.size
  obtain ⟨raW0, caW0, gaW0, zaW0⟩ := keep_row hB (g := w.heap.size) (by repeat (first | with_reducible assumption | with_reducible apply row_here0 | with_reducible apply row_here1 | with_reducible apply row_here2 | with_reducible apply row_here3 | with_reducible apply rowSkip))
  obtain ⟨rbW0, cbW0, gbW0, zbW0⟩ := keep_row hB (g := w.heap.size + 1) (by repeat (first | with_reducible assumption | with_reducible apply row_here0 | with_reducible apply row_here1 | with_reducible apply row_here2 | with_reducible apply row_here3 | with_reducible apply rowSkip))
  obtain ⟨rcW0, ccW0, gcW0, zcW0⟩ := keep_row hB (g := w.heap.size + 1 + 1) (by repeat (first | with_reducible assumption | with_reducible apply row_here0 | with_reducible apply row_here1 | with_reducible apply row_here2 | with_reducible apply row_here3 | with_reducible apply rowSkip))
  obtain ⟨rdW0, cdW0, gdW0, zdW0⟩ := keep_row hB (g := w.heap.size + 1 + 1 + 1) (by repeat (first | with_reducible assumption | with_reducible apply row_here0 | with_reducible apply row_here1 | with_reducible apply row_here2 | with_reducible apply row_here3 | with_reducible apply rowSkip))
  clear hB
  go_wp2_with fail
  refine (rMarch_x m _ H2.out _).mono ?_
  rintro e W1 ⟨rfl, hB⟩
  have hW1 : Below w.heap.size w W1 := hW0.trans (Below.trans (by have := hW0.size; go_grown) (hB.mono (by have := hW0.size; simp; try omega)))
  have zW1 := hW1.size
  obtain ⟨raW1, caW1, gaW1, zaW1⟩ := keep_row hB (g := w.heap.size) (by repeat (first | with_reducible assumption | with_reducible apply row_here0 | with_reducible apply row_here1 | with_reducible apply row_here2 | with_reducible apply row_here3 | with_reducible apply rowSkip))
  obtain ⟨rbW1, cbW1, gbW1, zbW1⟩ := keep_row hB (g := w.heap.size + 1) (by repeat (first | with_reducible assumption | with_reducible apply row_here0 | with_reducible apply row_here1 | with_reducible apply row_here2 | with_reducible apply row_here3 | with_reducible apply rowSkip))
  obtain ⟨rcW1, ccW1, gcW1, zcW1⟩ := keep_row hB (g := w.heap.size + 1 + 1) (by repeat (first | with_reducible assumption | with_reducible apply row_here0 | with_reducible apply row_here1 | with_reducible apply row_here2 | with_reducible apply row_here3 | with_reducible apply rowSkip))
  obtain ⟨rdW1, cdW1, gdW1, zdW1⟩ := keep_row hB (g := w.heap.size + 1 + 1 + 1) (by repeat (first | with_reducible assumption | with_reducible apply row_here0 | with_reducible apply row_here1 | with_reducible apply row_here2 | with_reducible apply row_here3 | with_reducible apply rowSkip))
  clear hB
  go_wp2_with fail
  refine (rcost_any b k m _ (okB_bd H.out) (okM_bd H2.out)).mono ?_
  rintro e W2 ⟨rfl, hB⟩
  have hW2 : Below w.heap.size w W2 := hW1.trans (Below.trans (by have := hW1.size; go_grown) (hB.mono (by have := hW1.size; simp; try omega)))
  have zW2 := hW2.size
  obtain ⟨rcW2, ccW2, gcW2, zcW2⟩ := keep_row hB (g := w.heap.size + 1 + 1) (by repeat (first | with_reducible assumption | with_reducible apply row_here0 | with_reducible apply row_here1 | with_reducible apply row_here2 | with_reducible apply row_here3 | with_reducible apply rowSkip))
  obtain ⟨rdW2, cdW2, gdW2, zdW2⟩ := keep_row hB (g := w.heap.size + 1 + 1 + 1) (by repeat (first | with_reducible assumption | with_reducible apply row_here0 | with_reducible apply row_here1 | with_reducible apply row_here2 | with_reducible apply row_here3 | with_reducible apply rowSkip))
  clear hB
  go_wp2_with fail
  clear raW0 caW0 gaW0 rbW0 cbW0 gbW0 rcW0 ccW0 gcW0 rdW0 cdW0 gdW0 raW1 caW1 gaW1 rbW1 cbW1 gbW1 rcW1 ccW1 gcW1 rdW1 cdW1 gdW1
  have hW3 : Below w.heap.size w ((W2.alloc (.cells #[.int .i64 (waS b k m).1, .int .i64 (waS b k m).2] 31)).alloc (.cells #[.int .i64 (faS b m).1, .int .i64 (faS b m).2] 31)) := by have := zW2; go_grown
  have rcW3 : rowOf ((W2.alloc (.cells #[.int .i64 (waS b k m).1, .int .i64 (waS b k m).2] 31)).alloc (.cells #[.int .i64 (faS b m).1, .int .i64 (faS b m).2] 31)) (w.heap.size + 1 + 1) = some #[.int .i64 0, .int .i64 0] := rowSkip (rowSkip rcW2)
  have rdW3 : rowOf ((W2.alloc (.cells #[.int .i64 (waS b k m).1, .int .i64 (waS b k m).2] 31)).alloc (.cells #[.int .i64 (faS b m).1, .int .i64 (faS b m).2] 31)) (w.heap.size + 1 + 1 + 1) = some #[.int .i64 0, .int .i64 0] := rowSkip (rowSkip rdW2)
  have rxW3 : rowOf ((W2.alloc (.cells #[.int .i64 (waS b k m).1, .int .i64 (waS b k m).2] 31)).alloc (.cells #[.int .i64 (faS b m).1, .int .i64 (faS b m).2] 31)) W2.heap.size = some #[.int .i64 (waS b k m).1, .int .i64 (waS b k m).2] := rowSkip (row_here0 _ _ _)
  have ryW3 : rowOf ((W2.alloc (.cells #[.int .i64 (waS b k m).1, .int .i64 (waS b k m).2] 31)).alloc (.cells #[.int .i64 (faS b m).1, .int .i64 (faS b m).2] 31)) (W2.heap.size + 1) = some #[.int .i64 (faS b m).1, .int .i64 (faS b m).2] := row_here1 _ _ _ _
  have zW3 := hW3.size
  generalize ((W2.alloc (.cells #[.int .i64 (waS b k m).1, .int .i64 (waS b k m).2] 31)).alloc (.cells #[.int .i64 (faS b m).1, .int .i64 (faS b m).2] 31)) = W3 at hW3 rcW3 rdW3 rxW3 ryW3 zW3 ⊢
  refine wp_draws (by kernel_rfl) [(w.heap.size + 1 + 1, #[.int .i64 (waS b k m).1, .int .i64 (waS b k m).2]), (w.heap.size + 1 + 1 + 1, #[.int .i64 (faS b m).1, .int .i64 (faS b m).2])] [some 28, some 29, none, none] (by kernel_rfl) (fun ix v W => match ix with
    | 0 => v = .agg #[.int .i64 (waS b k m).1, .int .i64 (waS b k m).2]
    | 1 => v = .agg #[.int .i64 (faS b m).1, .int .i64 (faS b m).2]
    | 2 => rowOf W (w.heap.size + 1 + 1) = some #[.int .i64 (waS b k m).1, .int .i64 (waS b k m).2]
    | 3 => rowOf W (w.heap.size + 1 + 1 + 1) = some #[.int .i64 (faS b m).1, .int .i64 (faS b m).2]
    | _ => True) ⟨⟨?_, ?_⟩, ⟨?_, ?_⟩, ⟨?_, ?_⟩, ⟨?_, ?_⟩, ?_⟩
  · intro g h; cases h
  · intro b' W hE hb hdep K hK
    have e9 : b'.tmps[9]?.getD undef = .pointer (some ⟨W2.heap.size, 0, none⟩) := hb 9 (by decide)
    clear hdep hb
    obtain ⟨_, _, -, _⟩ := row_facts (hE.row ((rowOf_drew _ _).trans rxW3) (by first | (simp; done) | (simp; omega)))
    obtain ⟨_, _, -, _⟩ := row_facts (hE.row ((rowOf_drew _ _).trans ryW3) (by first | (simp; done) | (simp; omega)))
    go_wp2
    exact hK _ _ (XT.refl _ _) rfl
  · intro g h; cases h
  · intro b' W hE hb hdep K hK
    have e10 : b'.tmps[10]?.getD undef = .pointer (some ⟨W2.heap.size + 1, 0, none⟩) := hb 10 (by decide)
    clear hdep hb
    obtain ⟨_, _, -, _⟩ := row_facts (hE.row ((rowOf_drew _ _).trans rxW3) (by first | (simp; done) | (simp; omega)))
    obtain ⟨_, _, -, _⟩ := row_facts (hE.row ((rowOf_drew _ _).trans ryW3) (by first | (simp; done) | (simp; omega)))
    go_wp2
    exact hK _ _ (XT.refl _ _) rfl
  · intro g h; cases h
  · intro b' W hE hb hdep K hK
    have e6 : b'.tmps[6]?.getD undef = .pointer (some ⟨w.heap.size + 1 + 1, 0, none⟩) := hb 6 (by decide)
    have e28 : b'.tmps[28]?.getD undef = .agg #[.int .i64 (waS b k m).1, .int .i64 (waS b k m).2] := pureX (hdep 0 (some 28) (by kernel_rfl) rfl)
    clear hdep hb
    exact wp_store_fin 31 (.tmp 6) (.tmp 28) rfl rfl ((eval_tmp _ _).trans e6) ((eval_tmp _ _).trans e28) (hE.keep (w.heap.size + 1 + 1, #[.int .i64 (waS b k m).1, .int .i64 (waS b k m).2]) (by simp) ⟨_, (rowOf_drew _ _).trans rcW3, rfl⟩) (by kernel_rfl) (by simp [one_int, one_bool]) (by simp) (by simp <;> omega) (fun W' h1 h2 => hK W' h1 h2)
  · intro g h; cases h
  · intro b' W hE hb hdep K hK
    have e7 : b'.tmps[7]?.getD undef = .pointer (some ⟨w.heap.size + 1 + 1 + 1, 0, none⟩) := hb 7 (by decide)
    have e29 : b'.tmps[29]?.getD undef = .agg #[.int .i64 (faS b m).1, .int .i64 (faS b m).2] := pureX (hdep 1 (some 29) (by kernel_rfl) rfl)
    clear hdep hb
    exact wp_store_fin 31 (.tmp 7) (.tmp 29) rfl rfl ((eval_tmp _ _).trans e7) ((eval_tmp _ _).trans e29) (hE.keep (w.heap.size + 1 + 1 + 1, #[.int .i64 (faS b m).1, .int .i64 (faS b m).2]) (by simp) ⟨_, (rowOf_drew _ _).trans rdW3, rfl⟩) (by kernel_rfl) (by simp [one_int, one_bool]) (by simp) (by simp <;> omega) (fun W' h1 h2 => hK W' h1 h2)
  intro f W hE hR
  have e28 : f 28 = .agg #[.int .i64 (waS b k m).1, .int .i64 (waS b k m).2] := pureX (hR 0 (some 28) rfl)
  have e29 : f 29 = .agg #[.int .i64 (faS b m).1, .int .i64 (faS b m).2] := pureX (hR 1 (some 29) rfl)
  have l2 : rowOf W (w.heap.size + 1 + 1) = some #[.int .i64 (waS b k m).1, .int .i64 (waS b k m).2] := lastX (by simp) (hR 2 none rfl)
  have l3 : rowOf W (w.heap.size + 1 + 1 + 1) = some #[.int .i64 (faS b m).1, .int .i64 (faS b m).2] := lastX (by simp) (hR 3 none rfl)
  clear hR
  simp only [List.filterMap_cons, List.filterMap_nil, id, puts, Act.put, List.setIfInBounds_toArray, List.set_cons_succ, List.set_cons_zero, e28, e29]
  have hw : Below w.heap.size w W := hE.below hW3.drew zW3 (by simp <;> omega)
  clear hE
  go_wp2
  exact bodyPost_ret (results_rows3 Try.results30 Try.underlying31 rfl Try.underlying31 rfl rfl rfl l2 l3 (by kernel_rfl) (by kernel_rfl) (v := .int .i64 0) rfl) rfl ⟨rfl, hw⟩

theorem rCost_any (b : Br) (k : Bool) (m : Mr) (w : World) :
    Calls Try.prog 30 #[.agg #[.int .i64 b.full, .int .i64 b.fed, .int .i64 b.rest.1, .int .i64 b.rest.2, .int .i64 b.heat.1, .int .i64 b.heat.2, .int .i64 b.toil.1, .int .i64 b.toil.2, .int .i64 b.burn.1, .int .i64 b.burn.2, .int .i64 b.rub.1, .int .i64 b.rub.2, .int .i64 b.milk.1, .int .i64 b.milk.2, .int .i64 b.heal, .int .i64 b.strong.1, .int .i64 b.strong.2], .bool k, .agg #[.int .i64 m.hours, .int .i64 m.load, .int .i64 m.heat.1, .int .i64 m.heat.2, .int .i64 m.grass.1, .int .i64 m.grass.2, .int .i64 m.drinks.1, .int .i64 m.drinks.2]] w fun e w' => e = .returned (.tuple #[.agg #[.int .i64 (coW b k m).1, .int .i64 (coW b k m).2], .agg #[.int .i64 (coF b m).1, .int .i64 (coF b m).2], .int .i64 (chkM b m)]) ∧ Below w.heap.size w w' := by
  cases hb : okB b with
  | false =>
    have h : chkM b m = 10 := by simp [chkM, hb]
    have h1 : coW b k m = (0, 0) := by simp [coW, h]
    have h2 : coF b m = (0, 0) := by simp [coF, h]
    rw [h, h1, h2]
    exact rCost_bad b k m w hb
  | true =>
    cases hm : okM m with
    | false =>
      have h : chkM b m = 12 := by simp [chkM, hb, hm]
      have h1 : coW b k m = (0, 0) := by simp [coW, h]
      have h2 : coF b m = (0, 0) := by simp [coF, h]
      rw [h, h1, h2]
      exact rCost_march b k m w hb hm
    | true =>
      have h : chkM b m = 0 := by simp [chkM, hb, hm]
      have h1 : coW b k m = waS b k m := by simp [coW, h]
      have h2 : coF b m = faS b m := by simp [coF, h]
      rw [h, h1, h2]
      exact rCost_ok b k m w hb hm
end Go.Proofs.Ytafdcbdbllpcnaa
/- Contracts over lists of days: package camel's checkTrip and the reference's asked. -/
namespace Go.Proofs.Ytafdcbdbllpcnaa
open Go.RowKit
open Go.Proofs

attribute [local go_sem ↓] exec36l exec112l exec36s exec112s exec31s run_min2 run_max2
attribute [local go_sem] load36 load112 store36 store112 store31 build112 rowOf_alloc rowOf_drew setRow_alloc one_int one_bool run_min4

/-- A list of days that was handed over: nil, or so many that lie one behind the other. -/
def DaysIn (w : World) (a : Option Addr) (cap : Nat) (ms : List Mr) : Prop :=
  (a = none ∧ cap = 0 ∧ ms = []) ∨ ∃ b off, a = some ⟨b, off, none⟩ ∧ MarchesAt w b off ms ∧ b < w.heap.size
theorem march_below {B : Nat} {w w' : World} {b o : Nat} {m : Mr} (hB : Below B w w') (hb : b < B) (h : MarchAt w b o m) : MarchAt w' b o m := by
  obtain ⟨c0, c1, c2, c3, c4, c5, c6, c7⟩ := h
  exact ⟨at_belowb hB hb c0, at_belowb hB hb c1, at_belowb hB hb c2, at_belowb hB hb c3, at_belowb hB hb c4, at_belowb hB hb c5, at_belowb hB hb c6, at_belowb hB hb c7⟩
theorem marches_below {B : Nat} {w w' : World} {b off : Nat} {ms : List Mr} (hB : Below B w w') (hb : b < B) (h : MarchesAt w b off ms) : MarchesAt w' b off ms :=
  fun k hk => march_below hB hb (h k hk)
theorem DaysIn.below {B : Nat} {w w' : World} {a : Option Addr} {cap : Nat} {ms : List Mr} (h : DaysIn w a cap ms) (hB : Below B w w') (hs : w.heap.size ≤ B) (hz : w.heap.size ≤ w'.heap.size) : DaysIn w' a cap ms := by
  rcases h with h | ⟨b, off, h1, h3, h4⟩
  · exact .inl h
  · exact .inr ⟨b, off, h1, marches_below hB (by omega) h3, by omega⟩

theorem checkMarches_in (a : Option Addr) (cap : Nat) (ms : List Mr) (x : Int) (hx : (if ms.all okM = true then (0 : Int) else 12) = x) (w : World) (h : DaysIn w a cap ms) (hl : ms.length ≤ 100000) :
    Calls Try.prog 63 #[.slice a ms.length cap] w fun e w' => e = .returned (.int .i64 x) ∧ Below w.heap.size w w' := by
  subst hx
  rcases h with ⟨rfl, rfl, rfl⟩ | ⟨b, off, rfl, h3, h4⟩
  · go_enter Try.func63, Try.ntmps63
    go_wp2
    go_rounds 1
    all_goals go_returns
    all_goals exact ⟨rfl, Below.refl _ _⟩
  · exact checkMarches_any b off cap ms w h3 h4 hl

/-- The error of an animal and days. -/
def chkT (b : Br) (c : Cm) (ms : List Mr) : Int := if chkC b c = 0 then (if 60 < ms.length then 4 else if ms.all okM = true then 0 else 12) else chkC b c

theorem chkC_x (b : Br) (c : Cm) (x : Int) (hx : chkC b c = x) (w : World) :
    Calls Try.prog 33 #[.agg #[.int .i64 b.full, .int .i64 b.fed, .int .i64 b.rest.1, .int .i64 b.rest.2, .int .i64 b.heat.1, .int .i64 b.heat.2, .int .i64 b.toil.1, .int .i64 b.toil.2, .int .i64 b.burn.1, .int .i64 b.burn.2, .int .i64 b.rub.1, .int .i64 b.rub.2, .int .i64 b.milk.1, .int .i64 b.milk.2, .int .i64 b.heal, .int .i64 b.strong.1, .int .i64 b.strong.2], .agg #[.int .i64 c.water.1, .int .i64 c.water.2, .int .i64 c.fat.1, .int .i64 c.fat.2, .int .i64 c.sore.1, .int .i64 c.sore.2, .bool c.milks]] w fun e w' => e = .returned (.int .i64 x) ∧ Below w.heap.size w w' := by
  subst hx; exact CheckCamel_any b c w
theorem rchkC_x (b : Br) (c : Cm) (x : Int) (hx : chkC b c = x) (w : World) :
    Calls Try.prog 34 #[.agg #[.int .i64 b.full, .int .i64 b.fed, .int .i64 b.rest.1, .int .i64 b.rest.2, .int .i64 b.heat.1, .int .i64 b.heat.2, .int .i64 b.toil.1, .int .i64 b.toil.2, .int .i64 b.burn.1, .int .i64 b.burn.2, .int .i64 b.rub.1, .int .i64 b.rub.2, .int .i64 b.milk.1, .int .i64 b.milk.2, .int .i64 b.heal, .int .i64 b.strong.1, .int .i64 b.strong.2], .agg #[.int .i64 c.water.1, .int .i64 c.water.2, .int .i64 c.fat.1, .int .i64 c.fat.2, .int .i64 c.sore.1, .int .i64 c.sore.2, .bool c.milks]] w fun e w' => e = .returned (.int .i64 x) ∧ Below w.heap.size w w' := by
  subst hx; exact rCheckCamel_any b c w

set_option maxRecDepth 100000 in
set_option maxHeartbeats 1000000 in
theorem checkTrip_any (b : Br) (c : Cm) (a : Option Addr) (cap : Nat) (ms : List Mr) (w : World) (h : DaysIn w a cap ms) (hl : ms.length ≤ 100000) :
    Calls Try.prog 57 #[.agg #[.int .i64 b.full, .int .i64 b.fed, .int .i64 b.rest.1, .int .i64 b.rest.2, .int .i64 b.heat.1, .int .i64 b.heat.2, .int .i64 b.toil.1, .int .i64 b.toil.2, .int .i64 b.burn.1, .int .i64 b.burn.2, .int .i64 b.rub.1, .int .i64 b.rub.2, .int .i64 b.milk.1, .int .i64 b.milk.2, .int .i64 b.heal, .int .i64 b.strong.1, .int .i64 b.strong.2], .agg #[.int .i64 c.water.1, .int .i64 c.water.2, .int .i64 c.fat.1, .int .i64 c.fat.2, .int .i64 c.sore.1, .int .i64 c.sore.2, .bool c.milks], .slice a ms.length cap] w fun e w' => e = .returned (.int .i64 (chkT b c ms)) ∧ Below w.heap.size w w' := by
  have HD := Lib.hid h
  obtain ⟨y, hy⟩ : ∃ y, (if ms.all okM = true then (0 : Int) else 12) = y := ⟨_, rfl⟩
  have HY := Lib.hid hy
  by_cases h0 : chkC b c = 0
  · have HC := Lib.hid h0
    by_cases h6 : 60 < ms.length
    · have hv : chkT b c ms = 4 := by simp [chkT, h0, h6]
      rw [hv]
      clear hv h0 hy h
      go_enter Try.func57, Try.ntmps57
      go_wp2_with fail
      refine (chkC_x b c _ HC.out _).mono ?_
      rintro e W1 ⟨rfl, hB⟩
      have hW1 : Below w.heap.size w W1 := Below.trans (by go_grown) (hB.mono (by simp; try omega))
      have zW1 := hW1.size
      clear hB
      go_wp2
      go_returns
      exact ⟨rfl, hW1⟩
    · have hv : chkT b c ms = y := by simp only [chkT, h0, h6, if_true, if_false]; exact hy
      rw [hv]
      clear hv h0 hy h
      go_enter Try.func57, Try.ntmps57
      go_wp2_with fail
      refine (chkC_x b c _ HC.out _).mono ?_
      rintro e W1 ⟨rfl, hB⟩
      have hW1 : Below w.heap.size w W1 := Below.trans (by go_grown) (hB.mono (by simp; try omega))
      have zW1 := hW1.size
      clear hB
      have hD1 := Lib.hid (HD.out.below hW1 (Nat.le_refl _) zW1)
      go_wp2_with fail
      refine (checkMarches_in a cap ms y HY.out W1 hD1.out hl).mono ?_
      rintro e W2 ⟨rfl, hB⟩
      have hW2 : Below w.heap.size w W2 := hW1.trans (Below.trans (by have := hW1.size; go_grown) (hB.mono (by have := hW1.size; simp; try omega)))
      have zW2 := hW2.size
      clear hB
      go_wp2
      go_returns
      exact ⟨rfl, hW2⟩
  · obtain ⟨x, hx⟩ : ∃ x, chkC b c = x := ⟨_, rfl⟩
    have hv : chkT b c ms = x := by simp only [chkT, h0, if_false]; exact hx
    rw [hv]
    rw [hx] at h0
    have HC := Lib.hid hx
    have hne : (x == 0) = false := by simpa using h0
    clear hv h0 hy hx h
    go_enter Try.func57, Try.ntmps57
    go_wp2_with fail
    refine (chkC_x b c _ HC.out _).mono ?_
    rintro e W1 ⟨rfl, hB⟩
    have hW1 : Below w.heap.size w W1 := Below.trans (by go_grown) (hB.mono (by simp; try omega))
    have zW1 := hW1.size
    clear hB
    go_wp2
    go_returns
    exact ⟨rfl, hW1⟩

set_option maxRecDepth 100000 in
set_option maxHeartbeats 1000000 in
theorem asked_some (b : Br) (c : Cm) (g off cap : Nat) (ms : List Mr) (w : World) (h : MarchesAt w g off ms) (hg : g < w.heap.size) (h0 : chkC b c = 0) (h6 : ms.length ≤ 60) :
    Calls Try.prog 76 #[.agg #[.int .i64 b.full, .int .i64 b.fed, .int .i64 b.rest.1, .int .i64 b.rest.2, .int .i64 b.heat.1, .int .i64 b.heat.2, .int .i64 b.toil.1, .int .i64 b.toil.2, .int .i64 b.burn.1, .int .i64 b.burn.2, .int .i64 b.rub.1, .int .i64 b.rub.2, .int .i64 b.milk.1, .int .i64 b.milk.2, .int .i64 b.heal, .int .i64 b.strong.1, .int .i64 b.strong.2], .agg #[.int .i64 c.water.1, .int .i64 c.water.2, .int .i64 c.fat.1, .int .i64 c.fat.2, .int .i64 c.sore.1, .int .i64 c.sore.2, .bool c.milks], .slice (some ⟨g, off, none⟩) ms.length cap] w fun e w' => e = .returned (.int .i64 (if ms.all okM = true then 0 else 12)) ∧ Below w.heap.size w w' := by
  obtain ⟨y, hy⟩ : ∃ y, (if ms.all okM = true then (0 : Int) else 12) = y := ⟨_, rfl⟩
  rw [hy]
  have HX := Lib.hid hy
  have HC := Lib.hid h0
  have HS := Lib.hid h
  clear hy h0 h
  go_enter Try.func76, Try.ntmps76
  go_wp2_with fail
  refine (rchkC_x b c _ HC.out _).mono ?_
  rintro e W1 ⟨rfl, hB⟩
  have hW1 : Below w.heap.size w W1 := Below.trans (by go_grown) (hB.mono (by simp; try omega))
  have zW1 := hW1.size
  clear hB
  go_wp2_with fail
  go_loopw [8] (fun i wr => ∃ k : Nat, k ≤ ms.length ∧ i = .int .i64 k ∧ Hid ((ms.take k).all okM = true) ∧ Below w.heap.size w wr) (fun i _ => ms.length - (intOf i).toNat)
  case atStart => exact ⟨0, Nat.zero_le _, rfl, by simp [Hid], hW1⟩
  case round =>
    obtain ⟨k, hk, rfl, hall, hB0⟩ := hrel
    have hz := hB0.size
    by_cases hlt : k < ms.length
    · obtain ⟨c0, c1, c2, c3, c4, c5, c6, c7⟩ := march_below hB0 hg (HS.out k hlt)
      generalize hm : ms[k] = m at *
      have Hm := Lib.hid hm
      clear hm
      have hlt' : (k : Int) < (ms.length : Int) := by omega
      cases hok : okM m with
      | false =>
        have HN := Lib.hid hok
        clear hok
        go_wp2_with fail
        refine (rMarch_x m _ HN.out _).mono ?_
        rintro e W ⟨rfl, hB⟩
        have hw : Below w.heap.size w W := hB0.trans (hB.mono (by first | exact hz | (simp; omega)))
        clear hB
        go_wp2
        go_returns
        exact ⟨ret_int (by rw [← HX.out, if_neg (by rw [all_noM ms k hlt (by rw [Hm.out]; exact HN.out)]; simp)]), hw⟩
      | true =>
        have HN := Lib.hid hok
        clear hok
        go_wp2_with fail
        refine (rMarch_x m _ HN.out _).mono ?_
        rintro e W ⟨rfl, hB⟩
        have hw : Below w.heap.size w W := hB0.trans (hB.mono (by first | exact hz | (simp; omega)))
        clear hB
        go_wp2
        exact ⟨⟨k + 1, by omega, by go_num, all_stepM ms k hlt hall.out (by rw [Hm.out]; exact HN.out), hw⟩, by simp [intOf]; omega⟩
    · obtain rfl : k = ms.length := by omega
      go_wp2
      go_returns
      have h := hall.out
      rw [List.take_length] at h
      exact ⟨ret_int (by rw [← HX.out, if_pos h]), hB0⟩

set_option maxRecDepth 100000 in
set_option maxHeartbeats 1000000 in
theorem asked_any (b : Br) (c : Cm) (a : Option Addr) (cap : Nat) (ms : List Mr) (w : World) (h : DaysIn w a cap ms) (hl : ms.length ≤ 100000) :
    Calls Try.prog 76 #[.agg #[.int .i64 b.full, .int .i64 b.fed, .int .i64 b.rest.1, .int .i64 b.rest.2, .int .i64 b.heat.1, .int .i64 b.heat.2, .int .i64 b.toil.1, .int .i64 b.toil.2, .int .i64 b.burn.1, .int .i64 b.burn.2, .int .i64 b.rub.1, .int .i64 b.rub.2, .int .i64 b.milk.1, .int .i64 b.milk.2, .int .i64 b.heal, .int .i64 b.strong.1, .int .i64 b.strong.2], .agg #[.int .i64 c.water.1, .int .i64 c.water.2, .int .i64 c.fat.1, .int .i64 c.fat.2, .int .i64 c.sore.1, .int .i64 c.sore.2, .bool c.milks], .slice a ms.length cap] w fun e w' => e = .returned (.int .i64 (chkT b c ms)) ∧ Below w.heap.size w w' := by
  by_cases h0 : chkC b c = 0
  · by_cases h6 : 60 < ms.length
    · have hv : chkT b c ms = 4 := by simp [chkT, h0, h6]
      rw [hv]
      have HC := Lib.hid h0
      clear hv h0 h
      go_enter Try.func76, Try.ntmps76
      go_wp2_with fail
      refine (rchkC_x b c _ HC.out _).mono ?_
      rintro e W1 ⟨rfl, hB⟩
      have hW1 : Below w.heap.size w W1 := Below.trans (by go_grown) (hB.mono (by simp; try omega))
      have zW1 := hW1.size
      clear hB
      go_wp2
      go_returns
      exact ⟨rfl, hW1⟩
    · have hv : chkT b c ms = if ms.all okM = true then (0 : Int) else 12 := by simp only [chkT, h0, h6, if_true, if_false]
      rw [hv]
      rcases h with ⟨rfl, rfl, rfl⟩ | ⟨g, off, rfl, h3, h4⟩
      · have HC := Lib.hid h0
        clear h0 hv
        go_enter Try.func76, Try.ntmps76
        go_wp2_with fail
        refine (rchkC_x b c _ HC.out _).mono ?_
        rintro e W1 ⟨rfl, hB⟩
        have hW1 : Below w.heap.size w W1 := Below.trans (by go_grown) (hB.mono (by simp; try omega))
        have zW1 := hW1.size
        clear hB
        go_wp2_with fail
        go_rounds 1
        all_goals go_returns
        all_goals exact ⟨rfl, hW1⟩
      · exact asked_some b c g off cap ms w h3 h4 h0 (by omega)
  · obtain ⟨x, hx⟩ : ∃ x, chkC b c = x := ⟨_, rfl⟩
    have hv : chkT b c ms = x := by simp only [chkT, h0, if_false]; exact hx
    rw [hv]
    rw [hx] at h0
    have HC := Lib.hid hx
    have hne : (x == 0) = false := by simpa using h0
    clear hv h0 hx h
    go_enter Try.func76, Try.ntmps76
    go_wp2_with fail
    refine (rchkC_x b c _ HC.out _).mono ?_
    rintro e W1 ⟨rfl, hB⟩
    have hW1 : Below w.heap.size w W1 := Below.trans (by go_grown) (hB.mono (by simp; try omega))
    have zW1 := hW1.size
    clear hB
    go_wp2
    go_returns
    exact ⟨rfl, hW1⟩
end Go.Proofs.Ytafdcbdbllpcnaa
/- A list that is appended to an empty one of one's own: a copy of it; over every program. Copies of lists of days and animals. -/
namespace Go.Proofs.Ytafdcbdbllpcnaa
open Go.RowKit
open Go.Proofs

section
variable {P : Program}
theorem wpList_clone {ops : Array Oper} {rest : List Oper} {o : Oper} {a : Act} {w : World} {Q : Exit → Act → World → Prop} (hgd : o.guard = none) (s x : Operand) (t : TypeId) (ho : o.op = .call { callee := .builtin .append, args := #[s, x], argTypes := #[t, t] })
    (base : Nat) (e : TypeId) (i : TypeInfo) (z : Value) (size bytes : Nat) (ht : P.underlying t = some (.slice e)) (hi : P.info? e = some i) (hz : i.zero = some z) (hsize : i.size = size) (hby : i.bytes = bytes) (hzs : z.cells.size = size) (hsz : 0 < size)
    (g0 cap0 : Nat) (hs : a.eval s = .slice (some ⟨g0, 0, none⟩) 0 cap0) (hown : w.ownsRow base e size (.slice (some ⟨g0, 0, none⟩) 0 cap0) 0 []) (xa : Option Addr) (n c : Nat) (cells : List Value) (hx : a.eval x = .slice xa n c) (hl : cells.length = n * size)
    (hsrc : (xa = none ∧ n = 0 ∧ c = 0) ∨ ∃ ad, xa = some ad ∧ ∀ j u, cells[j]? = some u → w.cell? (ad.add j) = some u) (h1 : ∀ u ∈ cells, u.oneCell' = true) (b1 : n ≤ maxLen) (b2 : n * bytes ≤ 140737488355328) (b3 : base ≤ w.heap.size)
    (hK : ∀ g cap w1, w1.ownsRow base e size (.slice (some ⟨g, 0, none⟩) n cap) n cells → w.grownBy w1 (some g0) → wpList P ops Q rest (a.put o.dst (.slice (some ⟨g, 0, none⟩) n cap)) w1) : wpList P ops Q (o :: rest) a w := by
  rcases hsrc with ⟨rfl, rfl, rfl⟩ | ⟨ad, rfl, hsrc⟩
  · obtain rfl : cells = [] := List.eq_nil_of_length_eq_zero (by simpa using hl)
    refine wpList_plain hgd fun K hK' => ?_
    have hr := run_append_owned_none (P := P) (w := w) base t o.type e i size ht hi _ 0 [] hown
    unfold Oper.wp execOp
    simp only [ho, resolve, invoke, builtin, Sem.run_bind, Sem.run_pure, Result.andThen_ok, List.map_toArray, List.map_cons, List.map_nil, hs, hx, hr]
    exact hK' _ _ (hK g0 cap0 w hown ⟨rfl, rfl, rfl, Nat.le_refl _, fun _ _ _ => rfl⟩)
  · refine wpList_append_own w hgd s x t ho base e i z size bytes ht hi hz hsize hby hzs hsz _ 0 [] hs hown ad n c cells hx hl hsrc h1 (by omega) (by rw [Nat.zero_add]; exact b2) b3 ?_
    intro v' w1 hown' hgrow hnil
    rw [Nat.zero_add, List.nil_append] at hown'
    rcases hown'.2 with ⟨rfl, h0⟩ | ⟨g, cap, cur, rfl, _⟩
    · exact absurd (hnil.1 rfl).1 (by simp)
    · exact hK g cap w1 hown' hgrow
end

/-- Cells of a list of things of one width, one by one. -/
theorem flat_at {α : Type} (f : α → List Value) (s : Nat) (hf : ∀ x, (f x).length = s) : ∀ (xs : List α) (k i : Nat) (hk : k < xs.length), i < s → (xs.flatMap f)[k * s + i]? = (f xs[k])[i]?
  | [], k, i, hk, _ => by simp at hk
  | x :: xs, 0, i, hk, hi => by
    rw [List.flatMap_cons, Nat.zero_mul, Nat.zero_add, List.getElem?_append_left (by rw [hf]; exact hi)]
    simp
  | x :: xs, k + 1, i, hk, hi => by
    rw [List.flatMap_cons, Nat.add_mul, Nat.one_mul, List.getElem?_append_right (by rw [hf]; omega), hf, show k * s + s + i - s = k * s + i by omega, flat_at f s hf xs k i (by simpa using hk) hi]
    rfl
theorem flat_len {α : Type} (f : α → List Value) (s : Nat) (hf : ∀ x, (f x).length = s) : ∀ (xs : List α), (xs.flatMap f).length = xs.length * s
  | [] => by simp
  | x :: xs => by rw [List.flatMap_cons, List.length_append, hf, flat_len f s hf xs, List.length_cons, Nat.add_mul]; omega
theorem flat_all {α : Type} (f : α → List Value) (s : Nat) (hf : ∀ x, (f x).length = s) (hs : 0 < s) (P : Nat → Value → Prop) (xs : List α) (h : ∀ k (hk : k < xs.length) i u, (f xs[k])[i]? = some u → P (k * s + i) u) : ∀ j u, (xs.flatMap f)[j]? = some u → P j u := by
  intro j u hj
  have hjl : j < xs.length * s := by rw [← flat_len f s hf xs]; exact (List.getElem?_eq_some_iff.1 hj).1
  have hk : j / s < xs.length := Nat.div_lt_of_lt_mul (by rw [Nat.mul_comm]; exact hjl)
  have e : j / s * s + j % s = j := by rw [Nat.mul_comm]; exact Nat.div_add_mod j s
  have := h (j / s) hk (j % s) u (by rw [← flat_at f s hf xs (j / s) (j % s) hk (Nat.mod_lt _ hs), e]; exact hj)
  rw [e] at this
  exact this

theorem add_none (g o j : Nat) : (⟨g, o, none⟩ : Addr).add j = ⟨g, o + j, none⟩ := by unfold Addr.add; split <;> simp_all
theorem mar_len (m : Mr) : (marCells m).length = 8 := rfl
theorem mar_one {ms : List Mr} : ∀ u ∈ ms.flatMap marCells, u.oneCell' = true := by
  intro u hu
  obtain ⟨m, _, hu⟩ := List.mem_flatMap.1 hu
  simp only [marCells, List.mem_cons, List.not_mem_nil, or_false] at hu
  rcases hu with rfl | rfl | rfl | rfl | rfl | rfl | rfl | rfl <;> rfl
theorem mar_cell {w : World} {g o : Nat} {m : Mr} (h : MarchAt w g o m) : ∀ i u, (marCells m)[i]? = some u → w.cell? ⟨g, o + i, none⟩ = some u := by
  obtain ⟨c0, c1, c2, c3, c4, c5, c6, c7⟩ := h
  intro i u hu
  match i with
  | 0 => simp [marCells] at hu; subst hu; exact c0
  | 1 => simp [marCells] at hu; subst hu; exact c1
  | 2 => simp [marCells] at hu; subst hu; exact c2
  | 3 => simp [marCells] at hu; subst hu; exact c3
  | 4 => simp [marCells] at hu; subst hu; exact c4
  | 5 => simp [marCells] at hu; subst hu; exact c5
  | 6 => simp [marCells] at hu; subst hu; exact c6
  | 7 => simp [marCells] at hu; subst hu; exact c7
  | n + 8 => simp [marCells] at hu
theorem days_src {w : World} {a : Option Addr} {cap : Nat} {ms : List Mr} (h : DaysIn w a cap ms) : (a = none ∧ ms.length = 0 ∧ cap = 0) ∨ ∃ ad, a = some ad ∧ ∀ j u, (ms.flatMap marCells)[j]? = some u → w.cell? (ad.add j) = some u := by
  rcases h with ⟨h1, h2, h3⟩ | ⟨b, off, h1, h2, h3⟩
  · exact .inl ⟨h1, by rw [h3]; rfl, h2⟩
  · refine .inr ⟨_, h1, ?_⟩
    refine flat_all marCells 8 mar_len (by omega) (fun j u => w.cell? ((⟨b, off, none⟩ : Addr).add j) = some u) ms ?_
    intro k hk i u hu
    rw [add_none, ← Nat.add_assoc]
    exact mar_cell (h2 k hk) i u hu
theorem days_own {w : World} {base g n cap : Nat} {ms : List Mr} (hn : n = ms.length) (h : w.ownsRow base 45 8 (.slice (some ⟨g, 0, none⟩) n cap) n (ms.flatMap marCells)) : DaysIn w (some ⟨g, 0, none⟩) cap ms ∧ base ≤ g := by
  subst hn
  have hb : base ≤ g ∧ g < w.heap.size := h.lt g rfl
  refine ⟨.inr ⟨g, 0, rfl, ?_, hb.2⟩, hb.1⟩
  intro k hk
  have key : ∀ i u, (marCells ms[k])[i]? = some u → w.cell? ⟨g, 0 + k * 8 + i, none⟩ = some u := by
    intro i u hu
    have hi : i < 8 := (List.getElem?_eq_some_iff.1 hu).1
    have h2 := h.cellAt (0 + k * 8 + i) (by have : (k + 1) * 8 ≤ ms.length * 8 := Nat.mul_le_mul_right 8 hk; omega)
    rw [h2, Nat.zero_add, flat_at marCells 8 mar_len ms k i hk hi]
    exact hu
  exact ⟨key 0 _ rfl, key 1 _ rfl, key 2 _ rfl, key 3 _ rfl, key 4 _ rfl, key 5 _ rfl, key 6 _ rfl, key 7 _ rfl⟩
end Go.Proofs.Ytafdcbdbllpcnaa
/- A copy of a list of meetings, and its cells as a row of a sort's. -/
namespace Go.Proofs.Ytafdcbdbllpcnaa
open Go.RowKit Go.Sort
open Go.Proofs

instance : Inhabited Mt := ⟨⟨0, 0, 0, false⟩⟩
def mtCells (x : Mt) : List Value := [.int .i64 x.a, .int .i64 x.b, .int .i64 x.day, .bool x.close]
theorem mt_len (x : Mt) : (mtCells x).length = 4 := rfl
theorem mt_one1 (x : Mt) : ∀ u ∈ mtCells x, u.oneCell' = true := by
  intro u hu
  simp only [mtCells, List.mem_cons, List.not_mem_nil, or_false] at hu
  rcases hu with rfl | rfl | rfl | rfl <;> rfl
theorem mt_one {ms : List Mt} : ∀ u ∈ ms.flatMap mtCells, u.oneCell' = true := by
  intro u hu
  obtain ⟨m, _, hu⟩ := List.mem_flatMap.1 hu
  exact mt_one1 m u hu
theorem meet_cell {w : World} {g o : Nat} {x : Mt} (h : MeetAt w g o x) : ∀ i u, (mtCells x)[i]? = some u → w.cell? ⟨g, o + i, none⟩ = some u := by
  obtain ⟨c0, c1, c2, c3⟩ := h
  intro i u hu
  match i with
  | 0 => simp [mtCells] at hu; subst hu; exact c0
  | 1 => simp [mtCells] at hu; subst hu; exact c1
  | 2 => simp [mtCells] at hu; subst hu; exact c2
  | 3 => simp [mtCells] at hu; subst hu; exact c3
  | n + 4 => simp [mtCells] at hu
theorem meets_src {w : World} {a : Option Addr} {cap n : Nat} {ms : List Mt} (hn : n = ms.length) (h : MeetsIn w a cap ms) : (a = none ∧ n = 0 ∧ cap = 0) ∨ ∃ ad, a = some ad ∧ ∀ j u, (ms.flatMap mtCells)[j]? = some u → w.cell? (ad.add j) = some u := by
  rcases h with ⟨h1, h2, h3⟩ | ⟨b, off, h1, h2, h3⟩
  · exact .inl ⟨h1, by rw [hn, h3]; rfl, h2⟩
  · refine .inr ⟨_, h1, ?_⟩
    refine flat_all mtCells 4 mt_len (by omega) (fun j u => w.cell? ((⟨b, off, none⟩ : Addr).add j) = some u) ms ?_
    intro k hk i u hu
    rw [add_none, ← Nat.add_assoc]
    exact meet_cell (h2 k hk) i u hu
theorem meets_own {w : World} {base g n cap : Nat} {ms : List Mt} (hn : n = ms.length) (h : w.ownsRow base 79 4 (.slice (some ⟨g, 0, none⟩) n cap) n (ms.flatMap mtCells)) : MeetsIn w (some ⟨g, 0, none⟩) cap ms ∧ base ≤ g ∧ g < w.heap.size ∧ HoldsK mtCells 4 w g 0 ms.toArray := by
  subst hn
  have hb : base ≤ g ∧ g < w.heap.size := h.lt g rfl
  have key : ∀ k (hk : k < ms.length) i u, (mtCells ms[k])[i]? = some u → w.cell? ⟨g, 0 + k * 4 + i, none⟩ = some u := by
    intro k hk i u hu
    have hi : i < 4 := (List.getElem?_eq_some_iff.1 hu).1
    have h2 := h.cellAt (0 + k * 4 + i) (by have : (k + 1) * 4 ≤ ms.length * 4 := Nat.mul_le_mul_right 4 hk; omega)
    rw [h2, Nat.zero_add, flat_at mtCells 4 mt_len ms k i hk hi]
    exact hu
  refine ⟨.inr ⟨g, 0, rfl, fun k hk => ⟨key k hk 0 _ rfl, key k hk 1 _ rfl, key k hk 2 _ rfl, key k hk 3 _ rfl⟩, hb.2⟩, hb.1, hb.2, ?_⟩
  intro j hj
  have hj' : j < ms.length * 4 := by simpa using hj
  refine ⟨?_, h.frozenAt _⟩
  rw [h.cellAt (0 + j) (by omega), Nat.zero_add]
  have hk : j / 4 < ms.length := by omega
  have h1 := flat_at mtCells 4 mt_len ms (j / 4) (j % 4) hk (by omega)
  rw [show j / 4 * 4 + j % 4 = j by omega] at h1
  rw [h1]
  rw [get_flatK mtCells 4 ms.toArray j (by simpa using hj')]
  have e1 : (ms.toArray)[j / 4]! = ms[j / 4] := by simp [hk]
  rw [e1]
  have hl : j % 4 < (mtCells ms[j / 4]).length := by rw [mt_len]; omega
  rw [List.getElem?_eq_getElem hl]
  simp [hl]
/-- What inOrder hands back. -/
def InOrder (ms : List Mt) (ys : List Mt) : Prop := ys.length = ms.length ∧ (∀ x, x ∈ ys ↔ x ∈ ms) ∧ ys.Pairwise (fun x y => x.day ≤ y.day)
/-- A row of a sort's, read again. -/
theorem holds_meets {w : World} {g : Nat} {d : Array Mt} (h : HoldsK mtCells 4 w g 0 d) (hg : g < w.heap.size) (cap : Nat) : MeetsIn w (some ⟨g, 0, none⟩) cap d.toList := by
  refine .inr ⟨g, 0, rfl, fun k hk => ?_, hg⟩
  have hk' : k < d.size := by simpa using hk
  have e : d[k]! = d.toList[k] := by simp [hk']
  have key : ∀ c, c < 4 → w.cell? ⟨g, 0 + k * 4 + c, none⟩ = some (mtCells d.toList[k])[c]! := fun c hc => by
    have := (h.cell hk' hc).1; rw [e] at this; exact this
  exact ⟨key 0 (by omega), key 1 (by omega), key 2 (by omega), key 3 (by omega)⟩

theorem info79y : (Try.prog.info? 79).map (fun i => (i.zero, i.size, i.bytes)) = some (some (.agg #[.int .i64 0, .int .i64 0, .int .i64 0, .bool false]), 4, 32) := by kernel_rfl
theorem owns_new79 {w : World} {g base e size : Nat} (hg : w.heap.size = g) (hb : base ≤ g) : (w.alloc (.cells #[] e)).ownsRow base e size (.slice (some ⟨g, 0, none⟩) 0 0) 0 [] := by
  subst hg; exact World.ownsRow_made _ #[] 0 hb (by decide) (by simp)

set_option maxRecDepth 100000 in
set_option maxHeartbeats 2000000 in
theorem Clone_ms (a : Option Addr) (cap n : Nat) (ms : List Mt) (w : World) (hn : n = ms.length) (h : MeetsIn w a cap ms) (h250 : n ≤ 250) :
    Calls Try.prog 92 #[.slice a n cap] w fun e w' => (∃ a' cap', e = .returned (.slice a' n cap') ∧ ((a' = none ∧ n = 0 ∧ cap' = 0) ∨ ∃ g, a' = some ⟨g, 0, none⟩ ∧ w.heap.size ≤ g ∧ g < w'.heap.size ∧ HoldsK mtCells 4 w' g 0 ms.toArray)) ∧ Below w.heap.size w w' := by
  have HN := Lib.hid hn
  have HM := Lib.hid h
  have hn250 : (n : Int) ≤ 250 := by omega
  obtain ⟨i0, hi0, hz0, hz1, hz2⟩ := info_parts info79y
  have hcase : (a = none ∧ n = 0 ∧ cap = 0) ∨ ∃ ad, a = some ad := by
    rcases meets_src hn h with h | ⟨ad, h, -⟩
    · exact .inl h
    · exact .inr ⟨ad, h⟩
  clear hn h
  rcases hcase with ⟨rfl, h0, rfl⟩ | ⟨ad, rfl⟩
  · subst h0
    clear hi0 hz0 hz1 hz2
    have hq := Lib.run_eql_slice_nil (P := Try.prog) w 28 79 none 0 0 0 0 Try.underlying28
    go_enter Try.func92, Try.ntmps92
    go_wp2
    go_returns
    exact ⟨⟨none, 0, rfl, by simp⟩, Below.refl _ _⟩
  · have hq := Lib.run_eql_slice_nil (P := Try.prog) w 28 79 (some ad) n cap 0 0 Try.underlying28
    go_enter Try.func92, Try.ntmps92
    go_wp2_with (first
      | (at_builtin; refine wpList_clone rfl _ _ 28 rfl w.heap.size 79 i0 (.agg #[.int .i64 0, .int .i64 0, .int .i64 0, .bool false]) 4 32 Try.underlying28 hi0 hz0 hz1 hz2 rfl (by decide) w.heap.size 0 rfl ?own (some ad) n cap (ms.flatMap mtCells) rfl ?len ?src mt_one (by unfold maxLen; omega) (by omega) (by simp) ?_)
      | fail)
    case own => exact owns_new79 rfl (Nat.le_refl _)
    case len => rw [flat_len mtCells 4 mt_len, HN.out]
    case src => exact meets_src HN.out (HM.out.ext (ext_alloc _ _))
    intro g cp w1 hown1 hgrow1
    have hWA : Below w.heap.size w w1 := Below.grown (by go_grown) hgrow1 (by simp) (fun i e => by cases e; exact Nat.le_refl _)
    obtain ⟨-, hO2, hO3, hO4⟩ := meets_own HN.out hown1
    have HO := Lib.hid hO4
    clear hown1 hgrow1 hO4 hi0 hz0 hz1 hz2
    go_wp2
    go_returns
    exact ⟨⟨some ⟨g, 0, none⟩, cp, rfl, .inr ⟨g, rfl, hO2, hO3, HO.out⟩⟩, hWA⟩
end Go.Proofs.Ytafdcbdbllpcnaa
