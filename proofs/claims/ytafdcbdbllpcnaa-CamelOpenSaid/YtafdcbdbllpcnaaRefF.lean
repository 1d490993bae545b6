/- Contract of the reference's Cost: what it returns, for every breed and day. -/
import Derived.Test.YtafdcbdbllpcnaaRefE
namespace Go.Proofs.Ytafdcbdbllpcnaa
open Go.RowKit
open Go.Proofs

attribute [local go_sem ↓] exec36l exec112l exec36s exec112s exec31s run_min2 run_max2
attribute [local go_sem] load36 load112 store36 store112 store31 build112 rowOf_alloc rowOf_drew setRow_alloc one_int one_bool run_min4

theorem rMarch_x (m : Mr) (x : Bool) (hx : okM m = x) (w : World) :
    Calls Try.prog 72 #[.agg #[.int .i64 m.hours, .int .i64 m.load, .int .i64 m.heat.1, .int .i64 m.heat.2, .int .i64 m.grass.1, .int .i64 m.grass.2, .int .i64 m.drinks.1, .int .i64 m.drinks.2]] w fun e w' => e = .returned (.bool x) ∧ Below w.heap.size w w' := by
  subst hx; exact rMarch_any m w

theorem rCost_bad (b : Br) (k : Bool) (m : Mr) (w : World) (hb : okB b = false) :
    Calls Try.prog 30 #[.agg #[.int .i64 b.full, .int .i64 b.fed, .int .i64 b.rest.1, .int .i64 b.rest.2, .int .i64 b.heat.1, .int .i64 b.heat.2, .int .i64 b.toil.1, .int .i64 b.toil.2, .int .i64 b.burn.1, .int .i64 b.burn.2, .int .i64 b.rub.1, .int .i64 b.rub.2, .int .i64 b.milk.1, .int .i64 b.milk.2, .int .i64 b.heal, .int .i64 b.strong.1, .int .i64 b.strong.2], .bool k, .agg #[.int .i64 m.hours, .int .i64 m.load, .int .i64 m.heat.1, .int .i64 m.heat.2, .int .i64 m.grass.1, .int .i64 m.grass.2, .int .i64 m.drinks.1, .int .i64 m.drinks.2]] w fun e w' => e = .returned (.tuple #[.agg #[.int .i64 0, .int .i64 0], .agg #[.int .i64 0, .int .i64 0], .int .i64 10]) ∧ Below w.heap.size w w' := by
  have H := Lib.hid hb
  clear hb
  go_enter Try.func30, Try.ntmps30
  go_wp2_with fail
  refine (rBreed_okB b _ H.out _).mono ?_
  rintro e W1 ⟨rfl, hB⟩
  have hW1 : Below w.heap.size w W1 := Below.trans (by go_grown) (hB.mono (by simp; try omega))
  have zW1 := hW1.size
  obtain ⟨raW1, caW1, gaW1, zaW1⟩ := keep_row hB (g := w.heap.size) (by repeat (first | with_reducible assumption | with_reducible apply row_here0 | with_reducible apply row_here1 | with_reducible apply row_here2 | with_reducible apply row_here3 | with_reducible apply rowSkip))
  obtain ⟨rcW1, ccW1, gcW1, zcW1⟩ := keep_row hB (g := w.heap.size + 1 + 1) (by repeat (first | with_reducible assumption | with_reducible apply row_here0 | with_reducible apply row_here1 | with_reducible apply row_here2 | with_reducible apply row_here3 | with_reducible apply rowSkip))
  obtain ⟨rdW1, cdW1, gdW1, zdW1⟩ := keep_row hB (g := w.heap.size + 1 + 1 + 1) (by repeat (first | with_reducible assumption | with_reducible apply row_here0 | with_reducible apply row_here1 | with_reducible apply row_here2 | with_reducible apply row_here3 | with_reducible apply rowSkip))
  clear hB
  have hq := fun vs g => rowOf_setRow rcW1 vs g
  go_wp2
  exact bodyPost_ret (results_rows3 Try.results30 Try.underlying31 rfl Try.underlying31 rfl rfl rfl (g := w.heap.size + 1 + 1) (g' := w.heap.size + 1 + 1 + 1) (cs := #[.int .i64 0, .int .i64 0]) (cs' := #[.int .i64 0, .int .i64 0]) (by rw [(stored_setRow (hq _ _ |>.trans (if_neg (by simp)) |>.trans rdW1) _).other _ (by simp), hq, if_pos rfl]) (stored_setRow (hq _ _ |>.trans (if_neg (by simp)) |>.trans rdW1) _).row (by kernel_rfl) (by kernel_rfl) (v := .int .i64 10) rfl) rfl ⟨rfl, Below_setRow (Below_setRow hW1 (by omega) _) (by omega) _⟩
theorem rCost_march (b : Br) (k : Bool) (m : Mr) (w : World) (hb : okB b = true) (hm : okM m = false) :
    Calls Try.prog 30 #[.agg #[.int .i64 b.full, .int .i64 b.fed, .int .i64 b.rest.1, .int .i64 b.rest.2, .int .i64 b.heat.1, .int .i64 b.heat.2, .int .i64 b.toil.1, .int .i64 b.toil.2, .int .i64 b.burn.1, .int .i64 b.burn.2, .int .i64 b.rub.1, .int .i64 b.rub.2, .int .i64 b.milk.1, .int .i64 b.milk.2, .int .i64 b.heal, .int .i64 b.strong.1, .int .i64 b.strong.2], .bool k, .agg #[.int .i64 m.hours, .int .i64 m.load, .int .i64 m.heat.1, .int .i64 m.heat.2, .int .i64 m.grass.1, .int .i64 m.grass.2, .int .i64 m.drinks.1, .int .i64 m.drinks.2]] w fun e w' => e = .returned (.tuple #[.agg #[.int .i64 0, .int .i64 0], .agg #[.int .i64 0, .int .i64 0], .int .i64 12]) ∧ Below w.heap.size w w' := by
  have H := Lib.hid hb
  have H2 := Lib.hid hm
  clear hb hm
  go_enter Try.func30, Try.ntmps30
  go_wp2_with fail
  refine (rBreed_okB b _ H.out _).mono ?_
  rintro e W0 ⟨rfl, hB⟩
  have hW0 : Below w.heap.size w W0 := Below.trans (by go_grown) (hB.mono (by simp; try omega))
  have zW0 := hW0.size
  obtain ⟨rbW0, cbW0, gbW0, zbW0⟩ := keep_row hB (g := w.heap.size + 1) (by repeat (first | with_reducible assumption | with_reducible apply row_here0 | with_reducible apply row_here1 | with_reducible apply row_here2 | with_reducible apply row_here3 | with_reducible apply rowSkip))
  obtain ⟨rcW0, ccW0, gcW0, zcW0⟩ := keep_row hB (g := w.heap.size + 1 + 1) (by repeat (first | with_reducible assumption | with_reducible apply row_here0 | with_reducible apply row_here1 | with_reducible apply row_here2 | with_reducible apply row_here3 | with_reducible apply rowSkip))
  obtain ⟨rdW0, cdW0, gdW0, zdW0⟩ := keep_row hB (g := w.heap.size + 1 + 1 + 1) (by repeat (first | with_reducible assumption | with_reducible apply row_here0 | with_reducible apply row_here1 | with_reducible apply row_here2 | with_reducible apply row_here3 | with_reducible apply rowSkip))
  clear hB
  go_wp2_with fail
  refine (rMarch_x m _ H2.out _).mono ?_
  rintro e W1 ⟨rfl, hB⟩
  have hW1 : Below w.heap.size w W1 := hW0.trans (Below.trans (by have := hW0.size; go_grown) (hB.mono (by have := hW0.size; simp; try omega)))
  have zW1 := hW1.size
  obtain ⟨rcW1, ccW1, gcW1, zcW1⟩ := keep_row hB (g := w.heap.size + 1 + 1) (by repeat (first | with_reducible assumption | with_reducible apply row_here0 | with_reducible apply row_here1 | with_reducible apply row_here2 | with_reducible apply row_here3 | with_reducible apply rowSkip))
  obtain ⟨rdW1, cdW1, gdW1, zdW1⟩ := keep_row hB (g := w.heap.size + 1 + 1 + 1) (by repeat (first | with_reducible assumption | with_reducible apply row_here0 | with_reducible apply row_here1 | with_reducible apply row_here2 | with_reducible apply row_here3 | with_reducible apply rowSkip))
  clear hB
  have hq := fun vs g => rowOf_setRow rcW1 vs g
  go_wp2
  exact bodyPost_ret (results_rows3 Try.results30 Try.underlying31 rfl Try.underlying31 rfl rfl rfl (g := w.heap.size + 1 + 1) (g' := w.heap.size + 1 + 1 + 1) (cs := #[.int .i64 0, .int .i64 0]) (cs' := #[.int .i64 0, .int .i64 0]) (by rw [(stored_setRow (hq _ _ |>.trans (if_neg (by simp)) |>.trans rdW1) _).other _ (by simp), hq, if_pos rfl]) (stored_setRow (hq _ _ |>.trans (if_neg (by simp)) |>.trans rdW1) _).row (by kernel_rfl) (by kernel_rfl) (v := .int .i64 12) rfl) rfl ⟨rfl, Below_setRow (Below_setRow hW1 (by omega) _) (by omega) _⟩
set_option maxHeartbeats 4000000 in
theorem rCost_ok (b : Br) (k : Bool) (m : Mr) (w : World) (hb : okB b = true) (hm : okM m = true) :
    Calls Try.prog 30 #[.agg #[.int .i64 b.full, .int .i64 b.fed, .int .i64 b.rest.1, .int .i64 b.rest.2, .int .i64 b.heat.1, .int .i64 b.heat.2, .int .i64 b.toil.1, .int .i64 b.toil.2, .int .i64 b.burn.1, .int .i64 b.burn.2, .int .i64 b.rub.1, .int .i64 b.rub.2, .int .i64 b.milk.1, .int .i64 b.milk.2, .int .i64 b.heal, .int .i64 b.strong.1, .int .i64 b.strong.2], .bool k, .agg #[.int .i64 m.hours, .int .i64 m.load, .int .i64 m.heat.1, .int .i64 m.heat.2, .int .i64 m.grass.1, .int .i64 m.grass.2, .int .i64 m.drinks.1, .int .i64 m.drinks.2]] w fun e w' => e = .returned (.tuple #[.agg #[.int .i64 (waS b k m).1, .int .i64 (waS b k m).2], .agg #[.int .i64 (faS b m).1, .int .i64 (faS b m).2], .int .i64 0]) ∧ Below w.heap.size w w' := by
  have H := Lib.hid hb
  have H2 := Lib.hid hm
  clear hb hm
  go_enter Try.func30, Try.ntmps30
  go_wp2_with fail
  refine (rBreed_okB b _ H.out _).mono ?_
  rintro e W0 ⟨rfl, hB⟩
  have hW0 : Below w.heap.size w W0 := Below.trans (by go_grown) (hB.mono (by simp; try omega))
  have zW0 := hW0.size
  obtain ⟨raW0, caW0, gaW0, zaW0⟩ := keep_row hB (g := w.heap.size) (by repeat (first | with_reducible assumption | with_reducible apply row_here0 | with_reducible apply row_here1 | with_reducible apply row_here2 | with_reducible apply row_here3 | with_reducible apply rowSkip))
  obtain ⟨rbW0, cbW0, gbW0, zbW0⟩ := keep_row hB (g := w.heap.size + 1) (by repeat (first | with_reducible assumption | with_reducible apply row_here0 | with_reducible apply row_here1 | with_reducible apply row_here2 | with_reducible apply row_here3 | with_reducible apply rowSkip))
  obtain ⟨rcW0, ccW0, gcW0, zcW0⟩ := keep_row hB (g := w.heap.size + 1 + 1) (by repeat (first | with_reducible assumption | with_reducible apply row_here0 | with_reducible apply row_here1 | with_reducible apply row_here2 | with_reducible apply row_here3 | with_reducible apply rowSkip))
  obtain ⟨rdW0, cdW0, gdW0, zdW0⟩ := keep_row hB (g := w.heap.size + 1 + 1 + 1) (by repeat (first | with_reducible assumption | with_reducible apply row_here0 | with_reducible apply row_here1 | with_reducible apply row_here2 | with_reducible apply row_here3 | with_reducible apply rowSkip))
  clear hB
  go_wp2_with fail
  refine (rMarch_x m _ H2.out _).mono ?_
  rintro e W1 ⟨rfl, hB⟩
  have hW1 : Below w.heap.size w W1 := hW0.trans (Below.trans (by have := hW0.size; go_grown) (hB.mono (by have := hW0.size; simp; try omega)))
  have zW1 := hW1.size
  obtain ⟨raW1, caW1, gaW1, zaW1⟩ := keep_row hB (g := w.heap.size) (by repeat (first | with_reducible assumption | with_reducible apply row_here0 | with_reducible apply row_here1 | with_reducible apply row_here2 | with_reducible apply row_here3 | with_reducible apply rowSkip))
  obtain ⟨rbW1, cbW1, gbW1, zbW1⟩ := keep_row hB (g := w.heap.size + 1) (by repeat (first | with_reducible assumption | with_reducible apply row_here0 | with_reducible apply row_here1 | with_reducible apply row_here2 | with_reducible apply row_here3 | with_reducible apply rowSkip))
  obtain ⟨rcW1, ccW1, gcW1, zcW1⟩ := keep_row hB (g := w.heap.size + 1 + 1) (by repeat (first | with_reducible assumption | with_reducible apply row_here0 | with_reducible apply row_here1 | with_reducible apply row_here2 | with_reducible apply row_here3 | with_reducible apply rowSkip))
  obtain ⟨rdW1, cdW1, gdW1, zdW1⟩ := keep_row hB (g := w.heap.size + 1 + 1 + 1) (by repeat (first | with_reducible assumption | with_reducible apply row_here0 | with_reducible apply row_here1 | with_reducible apply row_here2 | with_reducible apply row_here3 | with_reducible apply rowSkip))
  clear hB
  go_wp2_with fail
  refine (rcost_any b k m _ (okB_bd H.out) (okM_bd H2.out)).mono ?_
  rintro e W2 ⟨rfl, hB⟩
  have hW2 : Below w.heap.size w W2 := hW1.trans (Below.trans (by have := hW1.size; go_grown) (hB.mono (by have := hW1.size; simp; try omega)))
  have zW2 := hW2.size
  obtain ⟨rcW2, ccW2, gcW2, zcW2⟩ := keep_row hB (g := w.heap.size + 1 + 1) (by repeat (first | with_reducible assumption | with_reducible apply row_here0 | with_reducible apply row_here1 | with_reducible apply row_here2 | with_reducible apply row_here3 | with_reducible apply rowSkip))
  obtain ⟨rdW2, cdW2, gdW2, zdW2⟩ := keep_row hB (g := w.heap.size + 1 + 1 + 1) (by repeat (first | with_reducible assumption | with_reducible apply row_here0 | with_reducible apply row_here1 | with_reducible apply row_here2 | with_reducible apply row_here3 | with_reducible apply rowSkip))
  clear hB
  go_wp2_with fail
  clear raW0 caW0 gaW0 rbW0 cbW0 gbW0 rcW0 ccW0 gcW0 rdW0 cdW0 gdW0 raW1 caW1 gaW1 rbW1 cbW1 gbW1 rcW1 ccW1 gcW1 rdW1 cdW1 gdW1
  have hW3 : Below w.heap.size w ((W2.alloc (.cells #[.int .i64 (waS b k m).1, .int .i64 (waS b k m).2] 31)).alloc (.cells #[.int .i64 (faS b m).1, .int .i64 (faS b m).2] 31)) := by have := zW2; go_grown
  have rcW3 : rowOf ((W2.alloc (.cells #[.int .i64 (waS b k m).1, .int .i64 (waS b k m).2] 31)).alloc (.cells #[.int .i64 (faS b m).1, .int .i64 (faS b m).2] 31)) (w.heap.size + 1 + 1) = some #[.int .i64 0, .int .i64 0] := rowSkip (rowSkip rcW2)
  have rdW3 : rowOf ((W2.alloc (.cells #[.int .i64 (waS b k m).1, .int .i64 (waS b k m).2] 31)).alloc (.cells #[.int .i64 (faS b m).1, .int .i64 (faS b m).2] 31)) (w.heap.size + 1 + 1 + 1) = some #[.int .i64 0, .int .i64 0] := rowSkip (rowSkip rdW2)
  have rxW3 : rowOf ((W2.alloc (.cells #[.int .i64 (waS b k m).1, .int .i64 (waS b k m).2] 31)).alloc (.cells #[.int .i64 (faS b m).1, .int .i64 (faS b m).2] 31)) W2.heap.size = some #[.int .i64 (waS b k m).1, .int .i64 (waS b k m).2] := rowSkip (row_here0 _ _ _)
  have ryW3 : rowOf ((W2.alloc (.cells #[.int .i64 (waS b k m).1, .int .i64 (waS b k m).2] 31)).alloc (.cells #[.int .i64 (faS b m).1, .int .i64 (faS b m).2] 31)) (W2.heap.size + 1) = some #[.int .i64 (faS b m).1, .int .i64 (faS b m).2] := row_here1 _ _ _ _
  have zW3 := hW3.size
  generalize ((W2.alloc (.cells #[.int .i64 (waS b k m).1, .int .i64 (waS b k m).2] 31)).alloc (.cells #[.int .i64 (faS b m).1, .int .i64 (faS b m).2] 31)) = W3 at hW3 rcW3 rdW3 rxW3 ryW3 zW3 ⊢
  refine wp_draws (by kernel_rfl) [(w.heap.size + 1 + 1, #[.int .i64 (waS b k m).1, .int .i64 (waS b k m).2]), (w.heap.size + 1 + 1 + 1, #[.int .i64 (faS b m).1, .int .i64 (faS b m).2])] [some 28, some 29, none, none] (by kernel_rfl) (fun ix v W => match ix with
    | 0 => v = .agg #[.int .i64 (waS b k m).1, .int .i64 (waS b k m).2]
    | 1 => v = .agg #[.int .i64 (faS b m).1, .int .i64 (faS b m).2]
    | 2 => rowOf W (w.heap.size + 1 + 1) = some #[.int .i64 (waS b k m).1, .int .i64 (waS b k m).2]
    | 3 => rowOf W (w.heap.size + 1 + 1 + 1) = some #[.int .i64 (faS b m).1, .int .i64 (faS b m).2]
    | _ => True) ⟨⟨?_, ?_⟩, ⟨?_, ?_⟩, ⟨?_, ?_⟩, ⟨?_, ?_⟩, ?_⟩
  · intro g h; cases h
  · intro b' W hE hb hdep K hK
    have e9 : b'.tmps[9]?.getD undef = .pointer (some ⟨W2.heap.size, 0, none⟩) := hb 9 (by decide)
    clear hdep hb
    obtain ⟨_, _, -, _⟩ := row_facts (hE.row ((rowOf_drew _ _).trans rxW3) (by first | (simp; done) | (simp; omega)))
    obtain ⟨_, _, -, _⟩ := row_facts (hE.row ((rowOf_drew _ _).trans ryW3) (by first | (simp; done) | (simp; omega)))
    go_wp2
    exact hK _ _ (XT.refl _ _) rfl
  · intro g h; cases h
  · intro b' W hE hb hdep K hK
    have e10 : b'.tmps[10]?.getD undef = .pointer (some ⟨W2.heap.size + 1, 0, none⟩) := hb 10 (by decide)
    clear hdep hb
    obtain ⟨_, _, -, _⟩ := row_facts (hE.row ((rowOf_drew _ _).trans rxW3) (by first | (simp; done) | (simp; omega)))
    obtain ⟨_, _, -, _⟩ := row_facts (hE.row ((rowOf_drew _ _).trans ryW3) (by first | (simp; done) | (simp; omega)))
    go_wp2
    exact hK _ _ (XT.refl _ _) rfl
  · intro g h; cases h
  · intro b' W hE hb hdep K hK
    have e6 : b'.tmps[6]?.getD undef = .pointer (some ⟨w.heap.size + 1 + 1, 0, none⟩) := hb 6 (by decide)
    have e28 : b'.tmps[28]?.getD undef = .agg #[.int .i64 (waS b k m).1, .int .i64 (waS b k m).2] := pureX (hdep 0 (some 28) (by kernel_rfl) rfl)
    clear hdep hb
    exact wp_store_fin 31 (.tmp 6) (.tmp 28) rfl rfl ((eval_tmp _ _).trans e6) ((eval_tmp _ _).trans e28) (hE.keep (w.heap.size + 1 + 1, #[.int .i64 (waS b k m).1, .int .i64 (waS b k m).2]) (by simp) ⟨_, (rowOf_drew _ _).trans rcW3, rfl⟩) (by kernel_rfl) (by simp [one_int, one_bool]) (by simp) (by simp <;> omega) (fun W' h1 h2 => hK W' h1 h2)
  · intro g h; cases h
  · intro b' W hE hb hdep K hK
    have e7 : b'.tmps[7]?.getD undef = .pointer (some ⟨w.heap.size + 1 + 1 + 1, 0, none⟩) := hb 7 (by decide)
    have e29 : b'.tmps[29]?.getD undef = .agg #[.int .i64 (faS b m).1, .int .i64 (faS b m).2] := pureX (hdep 1 (some 29) (by kernel_rfl) rfl)
    clear hdep hb
    exact wp_store_fin 31 (.tmp 7) (.tmp 29) rfl rfl ((eval_tmp _ _).trans e7) ((eval_tmp _ _).trans e29) (hE.keep (w.heap.size + 1 + 1 + 1, #[.int .i64 (faS b m).1, .int .i64 (faS b m).2]) (by simp) ⟨_, (rowOf_drew _ _).trans rdW3, rfl⟩) (by kernel_rfl) (by simp [one_int, one_bool]) (by simp) (by simp <;> omega) (fun W' h1 h2 => hK W' h1 h2)
  intro f W hE hR
  have e28 : f 28 = .agg #[.int .i64 (waS b k m).1, .int .i64 (waS b k m).2] := pureX (hR 0 (some 28) rfl)
  have e29 : f 29 = .agg #[.int .i64 (faS b m).1, .int .i64 (faS b m).2] := pureX (hR 1 (some 29) rfl)
  have l2 : rowOf W (w.heap.size + 1 + 1) = some #[.int .i64 (waS b k m).1, .int .i64 (waS b k m).2] := lastX (by simp) (hR 2 none rfl)
  have l3 : rowOf W (w.heap.size + 1 + 1 + 1) = some #[.int .i64 (faS b m).1, .int .i64 (faS b m).2] := lastX (by simp) (hR 3 none rfl)
  clear hR
  simp only [List.filterMap_cons, List.filterMap_nil, id, puts, Act.put, List.setIfInBounds_toArray, List.set_cons_succ, List.set_cons_zero, e28, e29]
  have hw : Below w.heap.size w W := hE.below hW3.drew zW3 (by simp <;> omega)
  clear hE
  go_wp2
  exact bodyPost_ret (results_rows3 Try.results30 Try.underlying31 rfl Try.underlying31 rfl rfl rfl l2 l3 (by kernel_rfl) (by kernel_rfl) (v := .int .i64 0) rfl) rfl ⟨rfl, hw⟩

theorem rCost_any (b : Br) (k : Bool) (m : Mr) (w : World) :
    Calls Try.prog 30 #[.agg #[.int .i64 b.full, .int .i64 b.fed, .int .i64 b.rest.1, .int .i64 b.rest.2, .int .i64 b.heat.1, .int .i64 b.heat.2, .int .i64 b.toil.1, .int .i64 b.toil.2, .int .i64 b.burn.1, .int .i64 b.burn.2, .int .i64 b.rub.1, .int .i64 b.rub.2, .int .i64 b.milk.1, .int .i64 b.milk.2, .int .i64 b.heal, .int .i64 b.strong.1, .int .i64 b.strong.2], .bool k, .agg #[.int .i64 m.hours, .int .i64 m.load, .int .i64 m.heat.1, .int .i64 m.heat.2, .int .i64 m.grass.1, .int .i64 m.grass.2, .int .i64 m.drinks.1, .int .i64 m.drinks.2]] w fun e w' => e = .returned (.tuple #[.agg #[.int .i64 (coW b k m).1, .int .i64 (coW b k m).2], .agg #[.int .i64 (coF b m).1, .int .i64 (coF b m).2], .int .i64 (chkM b m)]) ∧ Below w.heap.size w w' := by
  cases hb : okB b with
  | false =>
    have h : chkM b m = 10 := by simp [chkM, hb]
    have h1 : coW b k m = (0, 0) := by simp [coW, h]
    have h2 : coF b m = (0, 0) := by simp [coF, h]
    rw [h, h1, h2]
    exact rCost_bad b k m w hb
  | true =>
    cases hm : okM m with
    | false =>
      have h : chkM b m = 12 := by simp [chkM, hb, hm]
      have h1 : coW b k m = (0, 0) := by simp [coW, h]
      have h2 : coF b m = (0, 0) := by simp [coF, h]
      rw [h, h1, h2]
      exact rCost_march b k m w hb hm
    | true =>
      have h : chkM b m = 0 := by simp [chkM, hb, hm]
      have h1 : coW b k m = waS b k m := by simp [coW, h]
      have h2 : coF b m = faS b m := by simp [coF, h]
      rw [h, h1, h2]
      exact rCost_ok b k m w hb hm
end Go.Proofs.Ytafdcbdbllpcnaa
